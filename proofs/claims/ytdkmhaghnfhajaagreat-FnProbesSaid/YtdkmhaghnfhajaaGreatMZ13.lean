/-
  Obeying as data; laws for an agent's twenty cells.
-/
import Derived.Test.YtdkmhaghnfhajaaGreatMZ12
import Derived.Test.YtdkmhaghnfhajaaGreatMZ6
import Derived.Deep.RegionHeld3
import Derived.Test.YtdkmhaghnfhajaaGreatMZ10
import Derived.Test.YtdkmhaghnfhajaaGreatMZ11
/- Wn -/
set_option linter.unusedVariables false
namespace Go.Proofs.YtdkmhaghnfhajaaGreat
open Go.RowKit

def planD (d : PlanD) (s : StD) (k a b : Int) : List RecD × Int := if k = 11 then tickD d s else if k = 12 then bootD d s a else if k = 13 then probeD d s (a == 1) else commandD d s k a b
def plannedD (d : PlanD) (s : StD) (k a b : Int) : List RecD × Int := if stOkB d s && orderOkB k a b then planD d s k a b else noR 1

set_option maxRecDepth 4000 in
set_option maxHeartbeats 8000000 in
theorem l13Plan_any (pv sv : Value) (d : PlanD) (s : StD) (k a b : Int) (w : World) (hp : IsPlan w w.heap.size pv d) (hs : IsSt w w.heap.size sv s) (hok : StOk d s) :
    Calls Tryz.prog 110 #[pv, sv, .agg (ordC k a b)] w (RecsA w (planD d s k a b)) := by
  have HP := Lib.hid hp
  have HS := Lib.hid hs
  obtain ⟨⟨P0, P1, P2, P3, k0, k1, k2, k3, rfl, s0, s1, s2, s3⟩, b0, b1, b2, b3⟩ := hp
  obtain ⟨⟨A0, A1, A2, A3, c0, c1, c2, c3, rfl, t0, t1, t2, t3⟩, f0, f1, f2, f3⟩ := hs
  have S0 := Lib.hid s0
  have S1 := Lib.hid s1
  have S2 := Lib.hid s2
  have S3 := Lib.hid s3
  have R0 := Lib.hid t0
  have R1 := Lib.hid t1
  have R2 := Lib.hid t2
  have R3 := Lib.hid t3
  unfold maxLen at b0 b1 b2 b3 f0 f1 f2 f3
  clear s0 s1 s2 s3 t0 t1 t2 t3
  have T0 := TP.start w (planC P0 P1 P2 P3 d.n0 k0 d.n1 k1 d.n2 k2 d.n3 k3 d.l d.p d.t) (stC A0 A1 A2 A3 s.pods.length c0 s.mnts.length c1 s.devs.length c2 s.lks.length c3 s.ph s.co s.ck s.bo s.ba s.lb s.gd s.pr) (ordC k a b) 29 38 55
  have OKB := Lib.hid (stOkB_iff.2 hok)
  clear hok
  obtain ⟨ans, hans⟩ : ∃ ans, planD d s k a b = ans := ⟨_, rfl⟩
  rw [hans]
  have HANS := Lib.hid hans
  clear hans
  by_cases e11 : k = 11
  · subst e11
    go_enter Tryz.func110, Tryz.ntmps110
    go_wp2_with fail
    refine (tickRecs_any _ _ d s _ ((HP.out.below T0.A.K (Nat.le_refl _)).more T0.A.K.size) ((HS.out.below T0.A.K (Nat.le_refl _)).more T0.A.K.size)).mono ?_
    rw [if_pos OKB.out]
    rintro e w9 hR
    obtain ⟨v9, rfl, O9, K9⟩ := hR.back T0.A.K
    go_wp2
    all_goals (go_ret2; rw [← HANS.out, planD, if_pos rfl]; exact ⟨v9, rfl, O9, K9⟩)
  · have E11 := Lib.hid e11
    by_cases e12 : k = 12
    · subst e12
      go_enter Tryz.func110, Tryz.ntmps110
      go_wp2_with fail
      refine (bootRecs_any _ _ d s a _ ((HP.out.below T0.A.K (Nat.le_refl _)).more T0.A.K.size) ((HS.out.below T0.A.K (Nat.le_refl _)).more T0.A.K.size)).mono ?_
      rw [if_pos OKB.out]
      rintro e w9 hR
      obtain ⟨v9, rfl, O9, K9⟩ := hR.back T0.A.K
      go_wp2
      all_goals (go_ret2; rw [← HANS.out, planD, if_neg E11.out, if_pos rfl]; exact ⟨v9, rfl, O9, K9⟩)
    · have E12 := Lib.hid e12
      by_cases e13 : k = 13
      · subst e13
        go_enter Tryz.func110, Tryz.ntmps110
        go_wp2_with fail
        refine (probeRecs_any _ _ d s (a == 1) _ ((HP.out.below T0.A.K (Nat.le_refl _)).more T0.A.K.size) ((HS.out.below T0.A.K (Nat.le_refl _)).more T0.A.K.size)).mono ?_
        rw [if_pos OKB.out]
        rintro e w9 hR
        obtain ⟨v9, rfl, O9, K9⟩ := hR.back T0.A.K
        go_wp2
        all_goals (go_ret2; rw [← HANS.out, planD, if_neg E11.out, if_neg E12.out, if_pos rfl]; exact ⟨v9, rfl, O9, K9⟩)
      · have E13 := Lib.hid e13
        go_enter Tryz.func110, Tryz.ntmps110
        go_wp2_with fail
        refine (commanded_any _ _ d s k a b _ ((HP.out.below T0.A.K (Nat.le_refl _)).more T0.A.K.size) ((HS.out.below T0.A.K (Nat.le_refl _)).more T0.A.K.size)).mono ?_
        rw [if_pos OKB.out]
        rintro e w9 hR
        obtain ⟨v9, rfl, O9, K9⟩ := hR.back T0.A.K
        go_wp2
        all_goals (go_ret2; rw [← HANS.out, planD, if_neg E11.out, if_neg E12.out, if_neg E13.out]; exact ⟨v9, rfl, O9, K9⟩)

set_option maxRecDepth 4000 in
set_option maxHeartbeats 8000000 in
theorem planned_any (pv sv : Value) (d : PlanD) (s : StD) (k a b : Int) (w : World) (hp : IsPlan w w.heap.size pv d) (hs : IsSt w w.heap.size sv s) :
    Calls Tryz.prog 94 #[pv, sv, .agg (ordC k a b)] w (RecsA w (plannedD d s k a b)) := by
  have HP := Lib.hid hp
  have HS := Lib.hid hs
  obtain ⟨⟨P0, P1, P2, P3, k0, k1, k2, k3, rfl, s0, s1, s2, s3⟩, b0, b1, b2, b3⟩ := hp
  obtain ⟨⟨A0, A1, A2, A3, c0, c1, c2, c3, rfl, t0, t1, t2, t3⟩, f0, f1, f2, f3⟩ := hs
  have S0 := Lib.hid s0
  have S1 := Lib.hid s1
  have S2 := Lib.hid s2
  have S3 := Lib.hid s3
  have R0 := Lib.hid t0
  have R1 := Lib.hid t1
  have R2 := Lib.hid t2
  have R3 := Lib.hid t3
  unfold maxLen at b0 b1 b2 b3 f0 f1 f2 f3
  clear s0 s1 s2 s3 t0 t1 t2 t3
  have T0 := TP.start w (planC P0 P1 P2 P3 d.n0 k0 d.n1 k1 d.n2 k2 d.n3 k3 d.l d.p d.t) (stC A0 A1 A2 A3 s.pods.length c0 s.mnts.length c1 s.devs.length c2 s.lks.length c3 s.ph s.co s.ck s.bo s.ba s.lb s.gd s.pr) (ordC k a b) 29 38 55
  obtain ⟨ans, hans⟩ : ∃ ans, plannedD d s k a b = ans := ⟨_, rfl⟩
  rw [hans]
  have HANS := Lib.hid hans
  clear hans
  go_enter Tryz.func94, Tryz.ntmps94
  go_wp2_with fail
  refine (specStateOk_any _ _ d s _ ((HP.out.below T0.A.K (Nat.le_refl _)).more T0.A.K.size) ((HS.out.below T0.A.K (Nat.le_refl _)).more T0.A.K.size)).mono ?_
  rintro e w1 ⟨rfl, hb⟩
  have T1 := T0.step hb
  have hC := T1.A.C
  have hD := T1.Z.C
  have hE := T1.O.C
  clear hb T0
  cases hok : stOkB d s
  · have H := Lib.hid hok
    clear hok
    go_wp2_with fail
    refine (l10No_any 1 _).mono ?_
    rintro e w9 hR
    obtain ⟨v9, rfl, O9, K9⟩ := hR.back T1.A.K
    go_wp2
    all_goals (go_ret2; rw [← HANS.out, plannedD, H.out, Bool.false_and, if_neg (by decide)]; exact ⟨v9, rfl, O9, K9⟩)
  · have OK := Lib.hid (stOkB_iff.1 hok)
    have H := Lib.hid hok
    clear hok
    go_wp2_with fail
    refine (orderOk_any k a b _).mono ?_
    rintro e w2 ⟨rfl, hb⟩
    have T2 := T1.step hb
    clear hb T1 hC hD hE
    have hC := T2.A.C
    have hD := T2.Z.C
    have hE := T2.O.C
    cases ho : orderOkB k a b
    · have HO := Lib.hid ho
      clear ho
      go_wp2_with fail
      refine (l10No_any 1 _).mono ?_
      rintro e w9 hR
      obtain ⟨v9, rfl, O9, K9⟩ := hR.back T2.A.K
      go_wp2
      all_goals (go_ret2; rw [← HANS.out, plannedD, HO.out, Bool.and_false, if_neg (by decide)]; exact ⟨v9, rfl, O9, K9⟩)
    · have HO := Lib.hid ho
      clear ho
      go_wp2_with fail
      refine (l13Plan_any _ _ d s k a b _ ((HP.out.below T2.A.K (Nat.le_refl _)).more T2.A.K.size) ((HS.out.below T2.A.K (Nat.le_refl _)).more T2.A.K.size) OK.out).mono ?_
      rintro e w9 hR
      obtain ⟨v9, rfl, O9, K9⟩ := hR.back T2.A.K
      go_wp2
      all_goals (go_ret2; rw [← HANS.out, plannedD, H.out, HO.out, Bool.true_and, if_pos rfl]; exact ⟨v9, rfl, O9, K9⟩)

end Go.Proofs.YtdkmhaghnfhajaaGreat
/- Wo -/
set_option linter.unusedVariables false
namespace Go.Proofs.YtdkmhaghnfhajaaGreat
open Go.RowKit

/-- Some records, just built, appended. -/
theorem append_news {w : World} {ops : Array Oper} {rest : List Oper} {o : Oper} {a : Act} {Q : Exit → Act → World → Prop} {B g m : Nat} {v : Value} {l : List RecD} {cs : Array Value} (l2 : List RecD) (s x : Operand) (hgd : o.guard = none)
    (ho : o.op = .call { callee := .builtin .append, args := #[s, x], argTypes := #[72, 72] }) (hs : a.eval s = v) (O : OR w B v l) (hg : w.heap.size = g) (hx : a.eval x = .slice (some ⟨g, 0, none⟩) m m) (hm : l2.length = m) (hcs : cs.toList = recVs l2) (hlen : l.length + m ≤ 1000000) (hB : B ≤ w.heap.size)
    (h : ∀ v' w', OR w' B v' (l ++ l2) → Below B w w' → Keeps (fun b => v.ownBlock = some b) w w' → wpList Tryz.prog ops Q rest (a.put o.dst v') w') : wpList Tryz.prog ops Q (o :: rest) a (w.alloc (.cells cs 60)) := by
  subst hg hm
  have hb : Below B w (w.alloc (.cells cs 60)) := (Below.refl _ _).alloc hB _
  refine append_recs (l2 := l2) (B2 := w.heap.size + 1) s x hgd ho hs (O.below ((Below.refl _ _).alloc (Nat.le_refl _) _)) hx (fun e => by cases e) ⟨recVs_len _, fun hn => ⟨w.heap.size, 0, rfl, by omega, fun j hj => ?_⟩⟩ hlen (Nat.le_trans hB hb.size) ?_
  · rw [Nat.zero_add, cell_new, ← hcs, Array.getElem?_toList]
  · intro v' w' O' hb' hk'
    exact h v' w' O' (hb.trans hb') ((Keeps.of_below ((Below.refl _ _).alloc (Nat.le_refl _) _)).trans hk')
/-- At a step of a region that draws: some records, just built, appended. -/
theorem step_append_cells {w : World} {ops : Array Oper} {o : Oper} {a : Act} {K : Act → World → Prop} {Q : Exit → Act → World → Prop} {E : Prop} {B g m : Nat} {v : Value} {l : List RecD} (l2 : List RecD) (s x : Operand) (hgd : o.guard = none)
    (ho : o.op = .call { callee := .builtin .append, args := #[s, x], argTypes := #[72, 72] }) (hs : a.eval s = v) (O : OR w B v l) (hx : a.eval x = .slice (some ⟨g, 0, none⟩) m m) (hm : l2.length = m)
    (hN : ∀ j, w.cell? ⟨g, j, none⟩ = (recVs l2)[j]?) (hlen : l.length + m ≤ 1000000) (hB : B ≤ w.heap.size)
    (h : ∀ v' w', OR w' B v' (l ++ l2) → Below B w w' → K (a.put o.dst v') w') : if Region.wanted o (yielded ops a.tmps) = true then Oper.wp Tryz.prog o a w K Q else E := by
  have hw : Region.wanted o (yielded ops a.tmps) = true := by simp [Region.wanted, hgd]
  rw [if_pos hw]
  subst hm
  obtain ⟨i0, hi, hz0, hz1, hz2⟩ := info_parts info_rec
  refine wp_append_own w s x 72 ho B 60 i0 (.agg #[.int .i64 0, .int .i64 0, .int .i64 0]) 3 24 Tryz.underlying72 hi hz0 hz1 hz2 rfl (by decide) v l.length (recVs l) hs O ⟨g, 0, none⟩ l2.length l2.length (recVs l2) hx (recVs_len l2) ?_ (SlV.one_cell_recs l2) (by unfold maxLen; omega) (by omega) hB ?_
  · intro j u hu
    have ha : (⟨g, 0, none⟩ : Addr).add j = ⟨g, j, none⟩ := by unfold Addr.add; split <;> simp_all
    rw [ha, hN j, hu]
  · intro v' w' hown hg _
    refine h v' w' ?_ ((Below.refl _ _).grown hg hB fun r hr => (O.lt hr).1)
    unfold OR
    rw [List.length_append, recVs_append]
    exact hown
theorem world_from {P : Program} {ops : Array Oper} {o : Oper} {a : Act} {K : Act → World → Prop} {Q : Exit → Act → World → Prop} {W : World} (R : World → Prop) (h : R W)
    (k : ∀ W', R W' → if Region.wanted o (yielded ops a.tmps) = true then Oper.wp P o a W' K Q else K (a.put o.dst undef) W') : if Region.wanted o (yielded ops a.tmps) = true then Oper.wp P o a W K Q else K (a.put o.dst undef) W := k W h
def upTo (n : Nat) (f : Nat → List RecD) : List RecD := (List.range n).flatMap f
theorem upTo_zero (f : Nat → List RecD) : upTo 0 f = [] := rfl
theorem upTo_next (n : Nat) (f : Nat → List RecD) : upTo (n + 1) f = upTo n f ++ f n := by
  unfold upTo
  rw [List.range_succ, List.flatMap_append]
  simp
theorem upTo_le {n m : Nat} {f : Nat → List RecD} (h : ∀ i, (f i).length ≤ m) : (upTo n f).length ≤ n * m := by
  induction n with
  | zero => simp [upTo]
  | succ n ih =>
    rw [upTo_next, List.length_append, Nat.succ_mul]
    have := h n
    omega
def snapP (s : StD) (i : Nat) : List RecD := if (podA s.pods i).1 = 0 ∧ (podA s.pods i).2 = 0 then [] else [⟨8, (podA s.pods i).2, 0⟩, ⟨2, i, (podA s.pods i).1⟩]
def snapM (s : StD) (i : Nat) : List RecD := (if (mntA s.mnts i).1 then [] else [⟨4, i, 0⟩]) ++ (if (mntA s.mnts i).2 = 0 then [] else [⟨3, i, (mntA s.mnts i).2⟩])
def snapV (s : StD) (i : Nat) : List RecD := if devA s.devs i then [] else [⟨5, i, 0⟩]
def snapA (s : StD) : List RecD := if s.ph = 0 then [] else [⟨1, s.ph, 0⟩]
def snapB (s : StD) : List RecD := if s.bo = 0 then [] else [⟨10, s.bo, 0⟩]
theorem snapA_le (s : StD) : (snapA s).length ≤ 1 := by unfold snapA; split <;> simp
theorem snapB_le (s : StD) : (snapB s).length ≤ 1 := by unfold snapB; split <;> simp
/-- Chapter 14: the records that make a state. -/
def snapL (s : StD) : List RecD :=
  (snapA s ++ snapB s) ++ (upTo s.pods.length (snapP s) ++ ([⟨8, s.ck, 0⟩] ++ (upTo s.mnts.length (snapM s) ++ (upTo s.devs.length (snapV s) ++
    (s.lks.map (fun x => (⟨6, x, 0⟩ : RecD)) ++ [⟨9, s.ba, 0⟩, ⟨11, s.lb, 0⟩, ⟨12, s.gd, s.pr⟩])))))
theorem snapP_le (s : StD) (i : Nat) : (snapP s i).length ≤ 2 := by unfold snapP; split <;> simp
theorem snapM_le (s : StD) (i : Nat) : (snapM s i).length ≤ 2 := by
  unfold snapM
  rw [List.length_append]
  have h1 : (if (mntA s.mnts i).1 then ([] : List RecD) else [⟨4, i, 0⟩]).length ≤ 1 := by split <;> simp
  have h2 : (if (mntA s.mnts i).2 = 0 then ([] : List RecD) else [⟨3, i, (mntA s.mnts i).2⟩]).length ≤ 1 := by split <;> simp
  omega
theorem snapV_le (s : StD) (i : Nat) : (snapV s i).length ≤ 1 := by unfold snapV; split <;> simp
theorem one_start (w : World) (cs : Array Value) (t : TypeId) : Own w ((w.alloc (.cells cs t)).alloc (.cells #[] 60)) w.heap.size cs ∧ OR ((w.alloc (.cells cs t)).alloc (.cells #[] 60)) (w.heap.size + 1) (.slice (some ⟨w.heap.size + 1, 0, none⟩) 0 0) [] := by
  have X0 := Own.box w cs t
  have O1 : OR _ (w.heap.size + 1) _ [] := OR.empty (w := w.alloc (.cells cs t)) X0.z
  have e : (w.alloc (.cells cs t)).heap.size = w.heap.size + 1 := by simp
  rw [e] at O1
  exact ⟨X0.step ((Below.refl _ _).alloc (Nat.le_refl _) _), O1⟩

set_option maxRecDepth 4000 in
set_option maxHeartbeats 16000000 in
theorem l14Snap_any (sv : Value) (s : StD) (w : World) (hs : IsSt w w.heap.size sv s) (hsz : s.pods.length ≤ 12 ∧ s.mnts.length ≤ 12 ∧ s.devs.length ≤ 12 ∧ s.lks.length ≤ 12) :
    Calls Tryz.prog 112 #[sv] w fun e w' => ∃ v, e = .returned v ∧ OR w' w.heap.size v (snapL s) ∧ Below w.heap.size w w' := by
  obtain ⟨⟨A0, A1, A2, A3, c0, c1, c2, c3, rfl, t0, t1, t2, t3⟩, f0, f1, f2, f3⟩ := hs
  have R0 := Lib.hid t0
  have R1 := Lib.hid t1
  have R2 := Lib.hid t2
  have R3 := Lib.hid t3
  have HSZ := Lib.hid hsz
  unfold maxLen at f0 f1 f2 f3
  clear t0 t1 t2 t3 hsz
  obtain ⟨ans, hans⟩ : ∃ ans, snapL s = ans := ⟨_, rfl⟩
  rw [hans]
  have HANS := Lib.hid hans
  clear hans
  have HA : Hid (ans = (snapA s ++ snapB s) ++ (upTo s.pods.length (snapP s) ++ ([⟨8, s.ck, 0⟩] ++ (upTo s.mnts.length (snapM s) ++ (upTo s.devs.length (snapV s) ++ (s.lks.map (fun x => (⟨6, x, 0⟩ : RecD)) ++ [⟨9, s.ba, 0⟩, ⟨11, s.lb, 0⟩, ⟨12, s.gd, s.pr⟩])))))) := Lib.hid HANS.out.symm
  obtain ⟨X0, O0⟩ := one_start w (stC A0 A1 A2 A3 s.pods.length c0 s.mnts.length c1 s.devs.length c2 s.lks.length c3 s.ph s.co s.ck s.bo s.ba s.lb s.gd s.pr) 38
  go_enter Tryz.func112, Tryz.ntmps112
  go_upto_region 2 with fail
  generalize (w.alloc (.cells (stC A0 A1 A2 A3 s.pods.length c0 s.mnts.length c1 s.devs.length c2 s.lks.length c3 s.ph s.co s.ck s.bo s.ba s.lb s.gd s.pr) 38)).alloc (.cells #[] 60) = w1 at X0 O0 ⊢
  have HO0 := Lib.hid O0
  have hC := X0.C
  clear O0 HANS
  go_upto_if 11 with fail
  go_cut [3] from 11 to 17 (fun v3 wx => Hid (OR wx (w.heap.size + 1) v3 (snapA s)) ∧ Own w wx w.heap.size (stC A0 A1 A2 A3 s.pods.length c0 s.mnts.length c1 s.devs.length c2 s.lks.length c3 s.ph s.co s.ck s.bo s.ba s.lb s.gd s.pr))
  case first =>
    have hO := HO0.out.len
    by_cases hp : s.ph = 0
    · have hb0 : (s.ph != 0) = false := by simp [hp]
      have HPH : Hid (snapA s = []) := Lib.hid (if_pos hp)
      clear hp
      go_wp2_with fail
      go_meet
      exact ⟨Lib.hid (by rw [HPH.out]; exact HO0.out), X0⟩
    · have hb0 : (s.ph != 0) = true := by simp [hp]
      have HPH : Hid (snapA s = [⟨1, s.ph, 0⟩]) := Lib.hid (if_neg hp)
      clear hp
      go_wp2_with (at_builtin; refine append_rec 1 s.ph 0 _ _ rfl rfl rfl HO0.out rfl rfl (by simp) X0.z ?_; rintro v' w' O' hb' -)
      go_meet
      exact ⟨Lib.hid (by rw [HPH.out]; simpa using O'), X0.low hb' (by omega) (by omega)⟩
  case rest =>
    obtain ⟨HO, X⟩ := hcut
    clear X0 HO0 hC
    have hC := X.C
    go_upto_if 20 with fail
    go_cut [3] from 20 to 26 (fun v3 wx => Hid (OR wx (w.heap.size + 1) v3 (snapA s ++ snapB s)) ∧ Own w wx w.heap.size (stC A0 A1 A2 A3 s.pods.length c0 s.mnts.length c1 s.devs.length c2 s.lks.length c3 s.ph s.co s.ck s.bo s.ba s.lb s.gd s.pr))
    case first =>
      have hle := snapA_le s
      by_cases hp : s.bo = 0
      · have hb0 : (s.bo != 0) = false := by simp [hp]
        have HPH : Hid (snapB s = []) := Lib.hid (if_pos hp)
        clear hp
        go_wp2_with fail
        go_meet
        exact ⟨Lib.hid (by rw [HPH.out, List.append_nil]; exact HO.out), X⟩
      · have hb0 : (s.bo != 0) = true := by simp [hp]
        have HPH : Hid (snapB s = [⟨10, s.bo, 0⟩]) := Lib.hid (if_neg hp)
        clear hp
        go_wp2_with (at_builtin; refine append_rec 10 s.bo 0 _ _ rfl rfl rfl HO.out rfl rfl (by omega) X.z ?_; rintro v' w' O' hb' -)
        go_meet
        exact ⟨Lib.hid (by rw [HPH.out]; exact O'), X.low hb' (by omega) (by omega)⟩
    case rest =>
    obtain ⟨HO2_, X2_⟩ := hcut
    clear X HO hC
    have X := X2_
    have HO := HO2_
    clear X2_ HO2_
    have hC := X.C
    have HL : Hid ((snapA s ++ snapB s).length ≤ 2) := Lib.hid (by have := snapA_le s; have := snapB_le s; rw [List.length_append]; omega)
    generalize hR : snapA s ++ snapB s = q0_ at HA HL HO
    clear hR
    have HA0 := HA
    have HL0 := HL
    clear HA HL
    go_wp2_with fail
    go_loopw [3, 4] (fun v j wr => ∃ k : Nat, k ≤ s.pods.length ∧ j = .int .i64 k ∧ Hid (OR wr (w.heap.size + 1) v (q0_ ++ upTo k (snapP s))) ∧ Own w wr w.heap.size (stC A0 A1 A2 A3 s.pods.length c0 s.mnts.length c1 s.devs.length c2 s.lks.length c3 s.ph s.co s.ck s.bo s.ba s.lb s.gd s.pr)) (fun _ j _ => s.pods.length - (intOf j).toNat)
    case atStart => exact ⟨0, Nat.zero_le _, rfl, Lib.hid (by first | (rw [upTo_zero, List.append_nil]; exact HO.out) | (rw [List.take_zero, List.map_nil, List.append_nil]; exact HO.out)), X⟩
    case round =>
      clear HO X hC
      obtain ⟨k, hk, rfl, HO, X⟩ := hrel
      have hC := X.C
      by_cases hlt : k < s.pods.length
      · obtain ⟨b', off', rfl, hb', hc⟩ := (R0.out.below X.K (Nat.le_refl _)).cell hlt
        have p0 := (hc 0 (by decide)).trans (podCs_at s.pods (i := k) hlt).1
        have p1 := (hc 1 (by decide)).trans (podCs_at s.pods (i := k) hlt).2
        rw [Nat.add_zero] at p0
        clear hc
        have HN1 : Hid (q0_ ++ upTo (k + 1) (snapP s) = (q0_ ++ upTo k (snapP s)) ++ (if (podA s.pods k).1 = 0 ∧ (podA s.pods k).2 = 0 then [] else [⟨8, (podA s.pods k).2, 0⟩, ⟨2, k, (podA s.pods k).1⟩])) := Lib.hid (by rw [upTo_next, List.append_assoc]; rfl)
        have HLE : Hid ((q0_ ++ upTo k (snapP s)).length ≤ 26) := Lib.hid (by have := upTo_le (n := k) (snapP_le s); have := HL0.out; have := HSZ.out; rw [List.length_append]; omega)
        generalize podA s.pods k = q at p0 p1 HN1
        obtain ⟨x, y⟩ := q
        dsimp only at p0 p1 HN1
        generalize hR : q0_ ++ upTo k (snapP s) = done at HN1 HLE HO
        clear hR
        by_cases hx : x = 0
        · subst hx
          by_cases hy : y = 0
          · subst hy
            go_wp2
            refine ⟨⟨k + 1, by omega, by go_num, Lib.hid (by rw [HN1.out]; simpa using HO.out), X⟩, by simp [intOf]; omega⟩
          · have HY := Lib.hid hy
            go_wp2_with fail
            have hbw : b' < wr.heap.size := Nat.lt_of_lt_of_le hb' X.K.size
            have S0 : (∀ o, wr.cell? ⟨w.heap.size, o, none⟩ = (stC (some ⟨b', off', none⟩) A1 A2 A3 s.pods.length c0 s.mnts.length c1 s.devs.length c2 s.lks.length c3 s.ph s.co s.ck s.bo s.ba s.lb s.gd s.pr)[o]?) ∧ wr.cell? ⟨b', off' + k * 2, none⟩ = some (.int .i64 0) ∧ wr.cell? ⟨b', off' + k * 2 + 1, none⟩ = some (.int .i64 y) := ⟨X.C, p0, p1⟩
            go_region_held3 (fun W => (∀ o, W.cell? ⟨w.heap.size, o, none⟩ = (stC (some ⟨b', off', none⟩) A1 A2 A3 s.pods.length c0 s.mnts.length c1 s.devs.length c2 s.lks.length c3 s.ph s.co s.ck s.bo s.ba s.lb s.gd s.pr)[o]?) ∧ W.cell? ⟨b', off' + k * 2, none⟩ = some (.int .i64 0) ∧ W.cell? ⟨b', off' + k * 2 + 1, none⟩ = some (.int .i64 y))
              (first | (with_reducible exact S9) | (with_reducible exact ⟨fun o => (Below.cell (p := ⟨w.heap.size, o, none⟩) ((Below.refl _ _).drew) X.z).trans (X.C o), (Below.cell (p := ⟨b', off' + k * 2, none⟩) ((Below.refl _ _).drew) hbw).trans p0, (Below.cell (p := ⟨b', off' + k * 2 + 1, none⟩) ((Below.refl _ _).drew) hbw).trans p1⟩) | (with_reducible exact ⟨fun o => (Below.cell (p := ⟨w.heap.size, o, none⟩) (((Below.refl _ _).alloc (Nat.le_refl _) (.cells #[.int .i64 8, .int .i64 y, .int .i64 0, .int .i64 2, .int .i64 k, .int .i64 0] 60)).drew) X.z).trans (X.C o), (Below.cell (p := ⟨b', off' + k * 2, none⟩) (((Below.refl _ _).alloc (Nat.le_refl _) (.cells #[.int .i64 8, .int .i64 y, .int .i64 0, .int .i64 2, .int .i64 k, .int .i64 0] 60)).drew) hbw).trans p0, (Below.cell (p := ⟨b', off' + k * 2 + 1, none⟩) (((Below.refl _ _).alloc (Nat.le_refl _) (.cells #[.int .i64 8, .int .i64 y, .int .i64 0, .int .i64 2, .int .i64 k, .int .i64 0] 60)).drew) hbw).trans p1⟩) | (with_reducible exact ⟨fun o => (Below.cell (p := ⟨w.heap.size, o, none⟩) ((Below.refl _ _).drew.alloc (Nat.le_refl _) (.cells #[.int .i64 8, .int .i64 y, .int .i64 0, .int .i64 2, .int .i64 k, .int .i64 0] 60)) X.z).trans (X.C o), (Below.cell (p := ⟨b', off' + k * 2, none⟩) ((Below.refl _ _).drew.alloc (Nat.le_refl _) (.cells #[.int .i64 8, .int .i64 y, .int .i64 0, .int .i64 2, .int .i64 k, .int .i64 0] 60)) hbw).trans p0, (Below.cell (p := ⟨b', off' + k * 2 + 1, none⟩) ((Below.refl _ _).drew.alloc (Nat.le_refl _) (.cells #[.int .i64 8, .int .i64 y, .int .i64 0, .int .i64 2, .int .i64 k, .int .i64 0] 60)) hbw).trans p1⟩))
              (((first
                | (with_reducible refine world_from (fun W' => Below wr.heap.size wr W' ∧ ∀ o, W'.cell? ⟨wr.heap.size, o, none⟩ = (#[.int .i64 8, .int .i64 y, .int .i64 0, .int .i64 2, .int .i64 k, .int .i64 0] : Array Value)[o]?) ⟨((Below.refl _ _).alloc (Nat.le_refl _) (.cells #[.int .i64 8, .int .i64 y, .int .i64 0, .int .i64 2, .int .i64 k, .int .i64 0] 60)).drew, fun o => (Below.cell (B := (wr.alloc (.cells #[.int .i64 8, .int .i64 y, .int .i64 0, .int .i64 2, .int .i64 k, .int .i64 0] 60)).heap.size) (p := ⟨wr.heap.size, o, none⟩) (Below.refl _ _).drew (by simp)).trans (cell_new wr #[.int .i64 8, .int .i64 y, .int .i64 0, .int .i64 2, .int .i64 k, .int .i64 0] 60 o)⟩ ?_)
                | (with_reducible refine world_from (fun W' => Below wr.heap.size wr W' ∧ ∀ o, W'.cell? ⟨wr.heap.size, o, none⟩ = (#[.int .i64 8, .int .i64 y, .int .i64 0, .int .i64 2, .int .i64 k, .int .i64 0] : Array Value)[o]?) ⟨(Below.refl _ _).drew.alloc (Nat.le_refl _) (.cells #[.int .i64 8, .int .i64 y, .int .i64 0, .int .i64 2, .int .i64 k, .int .i64 0] 60), fun o => cell_new wr.drew #[.int .i64 8, .int .i64 y, .int .i64 0, .int .i64 2, .int .i64 k, .int .i64 0] 60 o⟩ ?_)); rintro W' ⟨hW, hN⟩; refine step_append_cells [⟨8, y, 0⟩, ⟨2, k, 0⟩] _ _ rfl rfl rfl (HO.out.below hW) rfl rfl (by intro j; rw [hN j, ← Array.getElem?_toList]; rfl) (by have := HLE.out; omega) (Nat.le_trans X.z hW.size) ?_; intro v' w' O' hb1; have hb9 : Below (w.heap.size + 1) wr w' := (hW.mono X.z).trans hb1; have X9 := X.low hb9 (by omega) (by omega); have S9 : (∀ o, w'.cell? ⟨w.heap.size, o, none⟩ = (stC (some ⟨b', off', none⟩) A1 A2 A3 s.pods.length c0 s.mnts.length c1 s.devs.length c2 s.lks.length c3 s.ph s.co s.ck s.bo s.ba s.lb s.gd s.pr)[o]?) ∧ w'.cell? ⟨b', off' + k * 2, none⟩ = some (.int .i64 0) ∧ w'.cell? ⟨b', off' + k * 2 + 1, none⟩ = some (.int .i64 y) := ⟨X9.C, (hb9.cell (p := ⟨b', off' + k * 2, none⟩) (by show b' < w.heap.size + 1; omega)).trans p0, (hb9.cell (p := ⟨b', off' + k * 2 + 1, none⟩) (by show b' < w.heap.size + 1; omega)).trans p1⟩; clear hW hN hb1))
            go_wp2_with fail
            refine ⟨⟨k + 1, by omega, by go_num, Lib.hid (by rw [HN1.out, if_neg (fun h => HY.out h.2)]; exact O'), X9⟩, by simp [intOf]; omega⟩
        · have HX := Lib.hid hx
          go_wp2_with fail
          have hbw : b' < wr.heap.size := Nat.lt_of_lt_of_le hb' X.K.size
          have S0 : (∀ o, wr.cell? ⟨w.heap.size, o, none⟩ = (stC (some ⟨b', off', none⟩) A1 A2 A3 s.pods.length c0 s.mnts.length c1 s.devs.length c2 s.lks.length c3 s.ph s.co s.ck s.bo s.ba s.lb s.gd s.pr)[o]?) ∧ wr.cell? ⟨b', off' + k * 2, none⟩ = some (.int .i64 x) ∧ wr.cell? ⟨b', off' + k * 2 + 1, none⟩ = some (.int .i64 y) := ⟨X.C, p0, p1⟩
          go_region_held3 (fun W => (∀ o, W.cell? ⟨w.heap.size, o, none⟩ = (stC (some ⟨b', off', none⟩) A1 A2 A3 s.pods.length c0 s.mnts.length c1 s.devs.length c2 s.lks.length c3 s.ph s.co s.ck s.bo s.ba s.lb s.gd s.pr)[o]?) ∧ W.cell? ⟨b', off' + k * 2, none⟩ = some (.int .i64 x) ∧ W.cell? ⟨b', off' + k * 2 + 1, none⟩ = some (.int .i64 y))
            (first | (with_reducible exact S9) | (with_reducible exact ⟨fun o => (Below.cell (p := ⟨w.heap.size, o, none⟩) ((Below.refl _ _).drew) X.z).trans (X.C o), (Below.cell (p := ⟨b', off' + k * 2, none⟩) ((Below.refl _ _).drew) hbw).trans p0, (Below.cell (p := ⟨b', off' + k * 2 + 1, none⟩) ((Below.refl _ _).drew) hbw).trans p1⟩) | (with_reducible exact ⟨fun o => (Below.cell (p := ⟨w.heap.size, o, none⟩) (((Below.refl _ _).alloc (Nat.le_refl _) (.cells #[.int .i64 8, .int .i64 y, .int .i64 0, .int .i64 2, .int .i64 k, .int .i64 x] 60)).drew) X.z).trans (X.C o), (Below.cell (p := ⟨b', off' + k * 2, none⟩) (((Below.refl _ _).alloc (Nat.le_refl _) (.cells #[.int .i64 8, .int .i64 y, .int .i64 0, .int .i64 2, .int .i64 k, .int .i64 x] 60)).drew) hbw).trans p0, (Below.cell (p := ⟨b', off' + k * 2 + 1, none⟩) (((Below.refl _ _).alloc (Nat.le_refl _) (.cells #[.int .i64 8, .int .i64 y, .int .i64 0, .int .i64 2, .int .i64 k, .int .i64 x] 60)).drew) hbw).trans p1⟩) | (with_reducible exact ⟨fun o => (Below.cell (p := ⟨w.heap.size, o, none⟩) ((Below.refl _ _).drew.alloc (Nat.le_refl _) (.cells #[.int .i64 8, .int .i64 y, .int .i64 0, .int .i64 2, .int .i64 k, .int .i64 x] 60)) X.z).trans (X.C o), (Below.cell (p := ⟨b', off' + k * 2, none⟩) ((Below.refl _ _).drew.alloc (Nat.le_refl _) (.cells #[.int .i64 8, .int .i64 y, .int .i64 0, .int .i64 2, .int .i64 k, .int .i64 x] 60)) hbw).trans p0, (Below.cell (p := ⟨b', off' + k * 2 + 1, none⟩) ((Below.refl _ _).drew.alloc (Nat.le_refl _) (.cells #[.int .i64 8, .int .i64 y, .int .i64 0, .int .i64 2, .int .i64 k, .int .i64 x] 60)) hbw).trans p1⟩))
            (((first
              | (with_reducible refine world_from (fun W' => Below wr.heap.size wr W' ∧ ∀ o, W'.cell? ⟨wr.heap.size, o, none⟩ = (#[.int .i64 8, .int .i64 y, .int .i64 0, .int .i64 2, .int .i64 k, .int .i64 x] : Array Value)[o]?) ⟨((Below.refl _ _).alloc (Nat.le_refl _) (.cells #[.int .i64 8, .int .i64 y, .int .i64 0, .int .i64 2, .int .i64 k, .int .i64 x] 60)).drew, fun o => (Below.cell (B := (wr.alloc (.cells #[.int .i64 8, .int .i64 y, .int .i64 0, .int .i64 2, .int .i64 k, .int .i64 x] 60)).heap.size) (p := ⟨wr.heap.size, o, none⟩) (Below.refl _ _).drew (by simp)).trans (cell_new wr #[.int .i64 8, .int .i64 y, .int .i64 0, .int .i64 2, .int .i64 k, .int .i64 x] 60 o)⟩ ?_)
              | (with_reducible refine world_from (fun W' => Below wr.heap.size wr W' ∧ ∀ o, W'.cell? ⟨wr.heap.size, o, none⟩ = (#[.int .i64 8, .int .i64 y, .int .i64 0, .int .i64 2, .int .i64 k, .int .i64 x] : Array Value)[o]?) ⟨(Below.refl _ _).drew.alloc (Nat.le_refl _) (.cells #[.int .i64 8, .int .i64 y, .int .i64 0, .int .i64 2, .int .i64 k, .int .i64 x] 60), fun o => cell_new wr.drew #[.int .i64 8, .int .i64 y, .int .i64 0, .int .i64 2, .int .i64 k, .int .i64 x] 60 o⟩ ?_)); rintro W' ⟨hW, hN⟩; refine step_append_cells [⟨8, y, 0⟩, ⟨2, k, x⟩] _ _ rfl rfl rfl (HO.out.below hW) rfl rfl (by intro j; rw [hN j, ← Array.getElem?_toList]; rfl) (by have := HLE.out; omega) (Nat.le_trans X.z hW.size) ?_; intro v' w' O' hb1; have hb9 : Below (w.heap.size + 1) wr w' := (hW.mono X.z).trans hb1; have X9 := X.low hb9 (by omega) (by omega); have S9 : (∀ o, w'.cell? ⟨w.heap.size, o, none⟩ = (stC (some ⟨b', off', none⟩) A1 A2 A3 s.pods.length c0 s.mnts.length c1 s.devs.length c2 s.lks.length c3 s.ph s.co s.ck s.bo s.ba s.lb s.gd s.pr)[o]?) ∧ w'.cell? ⟨b', off' + k * 2, none⟩ = some (.int .i64 x) ∧ w'.cell? ⟨b', off' + k * 2 + 1, none⟩ = some (.int .i64 y) := ⟨X9.C, (hb9.cell (p := ⟨b', off' + k * 2, none⟩) (by show b' < w.heap.size + 1; omega)).trans p0, (hb9.cell (p := ⟨b', off' + k * 2 + 1, none⟩) (by show b' < w.heap.size + 1; omega)).trans p1⟩; clear hW hN hb1))
          go_wp2_with fail
          refine ⟨⟨k + 1, by omega, by go_num, Lib.hid (by rw [HN1.out, if_neg (fun h => HX.out h.1)]; exact O'), X9⟩, by simp [intOf]; omega⟩
      · obtain rfl : k = s.pods.length := by omega
        have HL1 : Hid ((q0_ ++ upTo s.pods.length (snapP s)).length ≤ 26) := Lib.hid (by have := upTo_le (n := s.pods.length) (snapP_le s); have := HL0.out; have := HSZ.out; rw [List.length_append]; omega)
        have HA1 : Hid (ans = (q0_ ++ upTo s.pods.length (snapP s)) ++ ([⟨8, s.ck, 0⟩] ++ (upTo s.mnts.length (snapM s) ++ (upTo s.devs.length (snapV s) ++ (s.lks.map (fun x => (⟨6, x, 0⟩ : RecD)) ++ [⟨9, s.ba, 0⟩, ⟨11, s.lb, 0⟩, ⟨12, s.gd, s.pr⟩]))))) := Lib.hid (by rw [HA0.out, List.append_assoc])
        generalize hR : q0_ ++ upTo s.pods.length (snapP s) = q1_ at HA1 HL1 HO
        clear hR
        go_upto_region 12 with (at_builtin; refine append_rec 8 s.ck 0 _ _ rfl rfl rfl HO.out rfl rfl (by have := HL1.out; omega) X.z ?_; rintro v1 w2 O1 hb1 -)
        have X1 := X.low hb1 (by omega) (by omega)
        have HL2 : Hid ((q1_ ++ [(⟨8, s.ck, 0⟩ : RecD)]).length ≤ 27) := Lib.hid (by have := HL1.out; simp; omega)
        have HA2 : Hid (ans = (q1_ ++ [(⟨8, s.ck, 0⟩ : RecD)]) ++ (upTo s.mnts.length (snapM s) ++ (upTo s.devs.length (snapV s) ++ (s.lks.map (fun x => (⟨6, x, 0⟩ : RecD)) ++ [⟨9, s.ba, 0⟩, ⟨11, s.lb, 0⟩, ⟨12, s.gd, s.pr⟩])))) := Lib.hid (by rw [HA1.out, List.append_assoc])
        generalize hR : q1_ ++ [(⟨8, s.ck, 0⟩ : RecD)] = q2_ at HA2 HL2 O1
        clear hR HO X hC
        have HO := Lib.hid O1
        have X := X1
        have hC := X.C
        clear O1 X1
        go_wp2_with fail
        go_loopw [3, 5] (fun v j wr => ∃ k : Nat, k ≤ s.mnts.length ∧ j = .int .i64 k ∧ Hid (OR wr (w.heap.size + 1) v (q2_ ++ upTo k (snapM s))) ∧ Own w wr w.heap.size (stC A0 A1 A2 A3 s.pods.length c0 s.mnts.length c1 s.devs.length c2 s.lks.length c3 s.ph s.co s.ck s.bo s.ba s.lb s.gd s.pr)) (fun _ j _ => s.mnts.length - (intOf j).toNat)
        case atStart => exact ⟨0, Nat.zero_le _, rfl, Lib.hid (by first | (rw [upTo_zero, List.append_nil]; exact HO.out) | (rw [List.take_zero, List.map_nil, List.append_nil]; exact HO.out)), X⟩
        case round =>
          clear HO X hC
          obtain ⟨k, hk, rfl, HO, X⟩ := hrel
          have hC := X.C
          by_cases hlt : k < s.mnts.length
          · obtain ⟨b', off', rfl, hb', hc⟩ := (R1.out.below X.K (Nat.le_refl _)).cell hlt
            have hbw : b' < wr.heap.size := Nat.lt_of_lt_of_le hb' X.K.size
            have p0 := (hc 0 (by decide)).trans (mntCs_at s.mnts (i := k) hlt).1
            have p1 := (hc 1 (by decide)).trans (mntCs_at s.mnts (i := k) hlt).2
            rw [Nat.add_zero] at p0
            clear hc
            have HN1 : Hid (q2_ ++ upTo (k + 1) (snapM s) = (q2_ ++ upTo k (snapM s)) ++ ((if (mntA s.mnts k).1 then [] else [⟨4, k, 0⟩]) ++ (if (mntA s.mnts k).2 = 0 then [] else [⟨3, k, (mntA s.mnts k).2⟩]))) := Lib.hid (by rw [upTo_next, List.append_assoc]; rfl)
            have HLE : Hid ((q2_ ++ upTo k (snapM s)).length ≤ 51) := Lib.hid (by have := upTo_le (n := k) (snapM_le s); have := HL2.out; have := HSZ.out; rw [List.length_append]; omega)
            generalize mntA s.mnts k = q at p0 p1 HN1
            obtain ⟨x, y⟩ := q
            dsimp only at p0 p1 HN1
            generalize hR : q2_ ++ upTo k (snapM s) = done at HN1 HLE HO
            clear hR
            by_cases hy : y = 0
            · subst hy
              cases x
              · go_wp2_with (at_builtin; refine append_rec 4 k 0 _ _ rfl rfl rfl HO.out rfl rfl (by have := HLE.out; omega) X.z ?_; rintro v' w' O' hb1 -; have X' := X.low hb1 (by omega) (by omega); have hC' := X'.C; have p1' := (hb1.cell (p := ⟨b', off' + k * 2 + 1, none⟩) (by show b' < w.heap.size + 1; omega)).trans p1)
                refine ⟨⟨k + 1, by omega, by go_num, Lib.hid (by rw [HN1.out]; simpa using O'), X'⟩, by simp [intOf]; omega⟩
              · go_wp2
                refine ⟨⟨k + 1, by omega, by go_num, Lib.hid (by rw [HN1.out]; simpa using HO.out), X⟩, by simp [intOf]; omega⟩
            · have HY := Lib.hid hy
              cases x
              · go_wp2_with (first
                  | (at_builtin; refine append_rec 3 k y _ _ rfl rfl rfl O' rfl rfl (by rw [List.length_append]; have := HLE.out; simp; omega) X'.z ?_; rintro v9 w9 O9 hb9 -)
                  | (at_builtin; refine append_rec 4 k 0 _ _ rfl rfl rfl HO.out rfl rfl (by have := HLE.out; omega) X.z ?_; rintro v' w' O' hb1 -; have X' := X.low hb1 (by omega) (by omega); have hC' := X'.C; have p1' := (hb1.cell (p := ⟨b', off' + k * 2 + 1, none⟩) (by show b' < w.heap.size + 1; omega)).trans p1))
                refine ⟨⟨k + 1, by omega, by go_num, Lib.hid (by rw [HN1.out, if_neg HY.out]; simpa [List.append_assoc] using O9), X'.low hb9 (by omega) (by omega)⟩, by simp [intOf]; omega⟩
              · go_wp2_with (at_builtin; refine append_rec 3 k y _ _ rfl rfl rfl HO.out rfl rfl (by have := HLE.out; omega) X.z ?_; rintro v9 w9 O9 hb9 -)
                refine ⟨⟨k + 1, by omega, by go_num, Lib.hid (by rw [HN1.out, if_neg HY.out]; simpa using O9), X.low hb9 (by omega) (by omega)⟩, by simp [intOf]; omega⟩
          · obtain rfl : k = s.mnts.length := by omega
            have HL3 : Hid ((q2_ ++ upTo s.mnts.length (snapM s)).length ≤ 51) := Lib.hid (by have := upTo_le (n := s.mnts.length) (snapM_le s); have := HL2.out; have := HSZ.out; rw [List.length_append]; omega)
            have HA3 : Hid (ans = (q2_ ++ upTo s.mnts.length (snapM s)) ++ (upTo s.devs.length (snapV s) ++ (s.lks.map (fun x => (⟨6, x, 0⟩ : RecD)) ++ [⟨9, s.ba, 0⟩, ⟨11, s.lb, 0⟩, ⟨12, s.gd, s.pr⟩]))) := Lib.hid (by rw [HA2.out, List.append_assoc])
            generalize hR : q2_ ++ upTo s.mnts.length (snapM s) = q3_ at HA3 HL3 HO
            clear hR
            go_wp2_with fail
            go_loopw [3, 6] (fun v j wr => ∃ k : Nat, k ≤ s.devs.length ∧ j = .int .i64 k ∧ Hid (OR wr (w.heap.size + 1) v (q3_ ++ upTo k (snapV s))) ∧ Own w wr w.heap.size (stC A0 A1 A2 A3 s.pods.length c0 s.mnts.length c1 s.devs.length c2 s.lks.length c3 s.ph s.co s.ck s.bo s.ba s.lb s.gd s.pr)) (fun _ j _ => s.devs.length - (intOf j).toNat)
            case atStart => exact ⟨0, Nat.zero_le _, rfl, Lib.hid (by first | (rw [upTo_zero, List.append_nil]; exact HO.out) | (rw [List.take_zero, List.map_nil, List.append_nil]; exact HO.out)), X⟩
            case round =>
              clear HO X hC
              obtain ⟨k, hk, rfl, HO, X⟩ := hrel
              have hC := X.C
              by_cases hlt : k < s.devs.length
              · obtain ⟨b', off', rfl, hb', hc⟩ := (R2.out.below X.K (Nat.le_refl _)).cell hlt
                have p0 := (hc 0 (by decide)).trans (devCs_at s.devs (i := k * 1 + 0) (by omega))
                rw [Nat.add_zero, Nat.mul_one] at p0
                clear hc
                have HN1 : Hid (q3_ ++ upTo (k + 1) (snapV s) = (q3_ ++ upTo k (snapV s)) ++ (if devA s.devs k then [] else [⟨5, k, 0⟩])) := Lib.hid (by rw [upTo_next, List.append_assoc]; rfl)
                have HLE : Hid ((q3_ ++ upTo k (snapV s)).length ≤ 63) := Lib.hid (by have := upTo_le (n := k) (snapV_le s); have := HL3.out; have := HSZ.out; rw [List.length_append]; omega)
                generalize devA s.devs k = x at p0 HN1
                generalize hR : q3_ ++ upTo k (snapV s) = done at HN1 HLE HO
                clear hR
                cases x
                · go_wp2_with (at_builtin; refine append_rec 5 k 0 _ _ rfl rfl rfl HO.out rfl rfl (by have := HLE.out; omega) X.z ?_; rintro v9 w9 O9 hb9 -)
                  refine ⟨⟨k + 1, by omega, by go_num, Lib.hid (by rw [HN1.out]; simpa using O9), X.low hb9 (by omega) (by omega)⟩, by simp [intOf]; omega⟩
                · go_wp2
                  refine ⟨⟨k + 1, by omega, by go_num, Lib.hid (by rw [HN1.out]; simpa using HO.out), X⟩, by simp [intOf]; omega⟩
              · obtain rfl : k = s.devs.length := by omega
                have HL4 : Hid ((q3_ ++ upTo s.devs.length (snapV s)).length ≤ 63) := Lib.hid (by have := upTo_le (n := s.devs.length) (snapV_le s); have := HL3.out; have := HSZ.out; rw [List.length_append]; omega)
                have HA4 : Hid (ans = (q3_ ++ upTo s.devs.length (snapV s)) ++ (s.lks.map (fun x => (⟨6, x, 0⟩ : RecD)) ++ [⟨9, s.ba, 0⟩, ⟨11, s.lb, 0⟩, ⟨12, s.gd, s.pr⟩])) := Lib.hid (by rw [HA3.out, List.append_assoc])
                generalize hR : q3_ ++ upTo s.devs.length (snapV s) = q4_ at HA4 HL4 HO
                clear hR
                go_wp2_with fail
                go_loopw [3, 7] (fun v j wr => ∃ k : Nat, k ≤ s.lks.length ∧ j = .int .i64 k ∧ Hid (OR wr (w.heap.size + 1) v (q4_ ++ (s.lks.take k).map (fun x => (⟨6, x, 0⟩ : RecD)))) ∧ Own w wr w.heap.size (stC A0 A1 A2 A3 s.pods.length c0 s.mnts.length c1 s.devs.length c2 s.lks.length c3 s.ph s.co s.ck s.bo s.ba s.lb s.gd s.pr)) (fun _ j _ => s.lks.length - (intOf j).toNat)
                case atStart => exact ⟨0, Nat.zero_le _, rfl, Lib.hid (by first | (rw [upTo_zero, List.append_nil]; exact HO.out) | (rw [List.take_zero, List.map_nil, List.append_nil]; exact HO.out)), X⟩
                case round =>
                  clear HO X hC
                  obtain ⟨k, hk, rfl, HO, X⟩ := hrel
                  have hC := X.C
                  by_cases hlt : k < s.lks.length
                  · obtain ⟨b', off', rfl, hb', hc⟩ := (R3.out.below X.K (Nat.le_refl _)).cell hlt
                    have p0 := (hc 0 (by decide)).trans (lkCs_at s.lks (i := k * 1 + 0) (by omega))
                    rw [Nat.add_zero, Nat.mul_one] at p0
                    clear hc
                    have HN1 : Hid (q4_ ++ (s.lks.take (k + 1)).map (fun x => (⟨6, x, 0⟩ : RecD)) = (q4_ ++ (s.lks.take k).map (fun x => (⟨6, x, 0⟩ : RecD))) ++ [⟨6, lkA s.lks k, 0⟩]) := Lib.hid (by
                      rw [List.append_assoc, take_at (i := lkA s.lks k) (by rw [List.getElem?_eq_getElem hlt]; simp [lkA, List.getD, List.getElem?_eq_getElem hlt]), List.map_append]
                      rfl)
                    have HLE : Hid ((q4_ ++ (s.lks.take k).map (fun x => (⟨6, x, 0⟩ : RecD))).length ≤ 75) := Lib.hid (by have := HL4.out; have := HSZ.out; rw [List.length_append, List.length_map, List.length_take]; omega)
                    generalize lkA s.lks k = x at p0 HN1
                    generalize hR : q4_ ++ (s.lks.take k).map (fun x => (⟨6, x, 0⟩ : RecD)) = done at HN1 HLE HO
                    clear hR
                    go_wp2_with (at_builtin; refine append_rec 6 x 0 _ _ rfl rfl rfl HO.out rfl rfl (by have := HLE.out; omega) X.z ?_; rintro v9 w9 O9 hb9 -)
                    refine ⟨⟨k + 1, by omega, by go_num, Lib.hid (by rw [HN1.out]; exact O9), X.low hb9 (by omega) (by omega)⟩, by simp [intOf]; omega⟩
                  · obtain rfl : k = s.lks.length := by omega
                    rw [List.take_length] at HO
                    have HL5 : Hid ((q4_ ++ s.lks.map (fun x => (⟨6, x, 0⟩ : RecD))).length ≤ 75) := Lib.hid (by have := HL4.out; have := HSZ.out; rw [List.length_append, List.length_map]; omega)
                    have HA5 : Hid (ans = (q4_ ++ s.lks.map (fun x => (⟨6, x, 0⟩ : RecD))) ++ [⟨9, s.ba, 0⟩, ⟨11, s.lb, 0⟩, ⟨12, s.gd, s.pr⟩]) := Lib.hid (by rw [HA4.out, List.append_assoc])
                    generalize hR : q4_ ++ s.lks.map (fun x => (⟨6, x, 0⟩ : RecD)) = q5_ at HA5 HL5 HO
                    clear hR
                    go_wp2_with (at_builtin; refine append_news [⟨9, s.ba, 0⟩, ⟨11, s.lb, 0⟩, ⟨12, s.gd, s.pr⟩] _ _ rfl rfl rfl HO.out rfl rfl rfl rfl (by have := HL5.out; omega) X.z ?_; rintro v' w' O' hb' -)
                    all_goals (go_ret; exact ⟨_, rfl, by rw [HA5.out]; exact O'.base (by omega), (X.low hb' (by omega) (by omega)).K⟩)

end Go.Proofs.YtdkmhaghnfhajaaGreat
/- Zg -/
set_option linter.unusedVariables false
namespace Go.Proofs.YtdkmhaghnfhajaaGreat
open Go.RowKit

/-- What an agent's store is then, and where the last frame begins. -/
def writeD (s : StD) (st : List Nat) (l : List RecD) : Option (List Nat × Nat) :=
  if writeB l then
    (if st.length + (framedD l).length ≤ 1200 then some (st ++ framedD l, st.length)
     else if (framedD (snapL s)).length + (framedD l).length ≤ 1200 then some (framedD (snapL s) ++ framedD l, (framedD (snapL s)).length) else none)
  else none
theorem writeD_len {s : StD} {st : List Nat} {l : List RecD} {x : List Nat × Nat} (h : writeD s st l = some x) : x.1.length ≤ 1200 := by
  unfold writeD at h
  split at h
  · split at h
    · cases h
      simp only [List.length_append]
      omega
    · split at h
      · cases h
        simp only [List.length_append]
        omega
      · cases h
  · cases h
/-- Behind l15Write. -/
def Written (w : World) (a : Option (List Nat × Nat)) (e : Ending) (w' : World) : Prop :=
  Below w.heap.size w w' ∧ match a with
    | some (x, k) => ∃ v, e = .returned (.tuple #[v, .int .i64 k, .bool true]) ∧ OB w' w.heap.size v x
    | none => ∃ v, e = .returned (.tuple #[v, .int .i64 0, .bool false])
theorem Written.yes {w w' : World} {x : List Nat} {k : Nat} {v : Value} (hb : Below w.heap.size w w') (h : OB w' w.heap.size v x) : Written w (some (x, k)) (.returned (.tuple #[v, .int .i64 k, .bool true])) w' := ⟨hb, v, rfl, h⟩
theorem Written.no {w w' : World} {v : Value} (hb : Below w.heap.size w w') : Written w none (.returned (.tuple #[v, .int .i64 0, .bool false])) w' := ⟨hb, v, rfl⟩
end Go.Proofs.YtdkmhaghnfhajaaGreat
/- Zh -/
set_option linter.unusedVariables false
namespace Go.Proofs.YtdkmhaghnfhajaaGreat
open Go.RowKit

theorem framedD_le2 (l : List RecD) : (framedD l).length ≤ 727 := by
  unfold framedD
  split
  · rw [frameN_length]
    have := wroteN_len l
    omega
  · simp

set_option maxRecDepth 100000 in
set_option maxHeartbeats 8000000 in
theorem l15Write_any (v rv : Value) (d : PlanD) (s : StD) (st : List Nat) (l : List RecD) (w : World) (h : IsAg w w.heap.size v d s st) (hr : Rt w w.heap.size rv l) (hsz : s.pods.length ≤ 12 ∧ s.mnts.length ≤ 12 ∧ s.devs.length ≤ 12 ∧ s.lks.length ≤ 12) (hst : st.length ≤ 1200) :
    Calls Tryz.prog 96 #[v, rv] w (Written w (writeD s st l)) := by
  obtain ⟨p0, p1, p2, p3, s0, s1, s2, s3, b, rfl, hp, hs, hb, hre⟩ := h.it
  obtain ⟨Ab, cb, rfl, hcap⟩ : ∃ A c, b = .slice A st.length c ∧ st.length ≤ c := by
    obtain ⟨⟨A, c, e, hc, -⟩, -, -⟩ := hb
    exact ⟨A, c, e, hc⟩
  have HS := Lib.hid hs
  have HB := Lib.hid hb
  have HR := Lib.hid hre
  have HL := Lib.hid hr
  have HSZ := Lib.hid hsz
  have hf1 := framedD_le2 l
  have hf2 := framedD_le2 (snapL s)
  obtain ⟨ans, hans⟩ : ∃ ans, writeD s st l = ans := ⟨_, rfl⟩
  rw [hans]
  have HA0 := Lib.hid hans
  have X0 := Own.box w (agC p0 p1 p2 p3 d.l d.p d.t s.ph s.co s.ck s.bo s.ba s.lb s0 s1 s2 s3 s.gd s.pr (.slice Ab st.length cb)) 49
  clear h hp hs hb hre hr hsz hans
  go_enter Tryz.func96, Tryz.ntmps96
  go_wp2_with fail
  generalize w.alloc (.cells (agC p0 p1 p2 p3 d.l d.p d.t s.ph s.co s.ck s.bo s.ba s.lb s0 s1 s2 s3 s.gd s.pr (.slice Ab st.length cb)) 49) = w0 at X0 ⊢
  refine (specFramed_any rv l w0 ((HL.out.below X0.K (Nat.le_refl _)).more X0.K.size)).mono ?_
  rintro e w1 ⟨v1, rfl, O1, hb⟩
  have X1 := X0.step hb
  have HBf := Lib.hid O1.bt
  have Rf := Lib.hid O1.real
  obtain ⟨A1, c1, -, rfl, hc1, -⟩ := O1.open_
  clear X0 hb O1
  cases hw : writeB l
  · have HA : Hid (ans = none) := Lib.hid (by rw [← HA0.out]; unfold writeD; rw [hw]; rfl)
    clear hw
    go_wp2_with fail
    go_ret3
    rw [HA.out]
    exact Written.no (X1.K.alloc X1.K.size _)
  · have HW := Lib.hid hw
    clear hw
    have hC := X1.C
    have i0 : (st.length : Int) ≤ 1200 := by omega
    have i1 : ((framedD l).length : Int) ≤ 727 := by omega
    by_cases h1 : st.length + (framedD l).length ≤ 1200
    · have HA : Hid (ans = some (st ++ framedD l, st.length)) := Lib.hid (by rw [← HA0.out]; unfold writeD; rw [HW.out, if_pos h1]; rfl)
      have i2 : (st.length : Int) + ((framedD l).length : Int) ≤ 1200 := by omega
      have HK_w1 := Lib.hid (Below.refl w1.heap.size w1)
      go_wp2_with (first
        | (at_builtin
           have hq := O8
           clear hq
           refine wpList_append_bt rfl _ _ rfl w.heap.size _ (st) rfl O8 (.slice A1 (framedD l).length c1) (framedD l) rfl (HBf.out.below K8 (Nat.le_refl _)) Rf.out (by omega) (Nat.le_trans T8.K.size (Nat.le_refl _)) ?_
           intro v9 w9 O9 hg9)
        | (at_builtin
           refine wpList_append_bt rfl _ _ rfl w.heap.size _ [] rfl (OB.empty X1.K.size) (.slice Ab st.length cb) (st) rfl ((HB.out.below (X1.K.alloc X1.K.size _) (Nat.le_refl _))) HR.out (by simp; omega) (X1.K.alloc X1.K.size _).size ?_
           intro v8 w8 O8 hg8
           replace O8 : OB w8 w.heap.size v8 (st) := by simpa using O8
           have hb8 : Below w1.heap.size w1 w8 := ((Below.refl _ _).alloc (Nat.le_refl _) _).grown hg8 (by simp) (fun r hr => Nat.le_of_eq (Option.some.inj hr))
           have K8 := HK_w1.out.trans (hb8.mono HK_w1.out.size)
           have T8 := X1.step hb8
           clear hg8 hb8))
      have KW : Below w.heap.size w w9 := T8.K.grown hg9 T8.K.size (fun r hr => (OB.lt O8 hr).1)
      go_ret3
      rw [HA.out]
      exact Written.yes KW O9
    · have h1' : (1200 : Int) < (st.length : Int) + ((framedD l).length : Int) := by omega
      have H1 := Lib.hid h1
      clear h1
      go_wp2_with fail
      refine (l14Snap_any _ s w1 ((HS.out.below X1.K (Nat.le_refl _)).more X1.K.size).is HSZ.out).mono ?_
      rintro e w2 ⟨v2, rfl, O2, hb⟩
      have X2 := X1.step hb
      have HK_w2 := Lib.hid hb
      have RS := Lib.hid O2.rt
      clear hb O2 X1 hC
      go_wp2_with fail
      refine (specFramed_any v2 (snapL s) w2 RS.out).mono ?_
      rintro e w3 ⟨v3, rfl, O3, hb⟩
      have X3 := X2.step hb
      have HK_w3 := Lib.hid (HK_w2.out.trans (hb.mono HK_w2.out.size))
      have HBo := Lib.hid O3.bt
      have Ro := Lib.hid O3.real
      obtain ⟨A3, c3, -, rfl, hc3, -⟩ := O3.open_
      clear X2 hb O3
      have i3 : ((framedD (snapL s)).length : Int) ≤ 727 := by omega
      by_cases h2 : (framedD (snapL s)).length + (framedD l).length ≤ 1200
      · have HA : Hid (ans = some (framedD (snapL s) ++ framedD l, (framedD (snapL s)).length)) := Lib.hid (by rw [← HA0.out]; unfold writeD; rw [HW.out, if_neg H1.out, if_pos h2]; rfl)
        have i4 : ((framedD (snapL s)).length : Int) + ((framedD l).length : Int) ≤ 1200 := by omega
        go_wp2_with (first
          | (at_builtin
             have hq := O8
             clear hq
             refine wpList_append_bt rfl _ _ rfl w.heap.size _ (framedD (snapL s)) rfl O8 (.slice A1 (framedD l).length c1) (framedD l) rfl (HBf.out.below K8 (Nat.le_refl _)) Rf.out (by omega) (Nat.le_trans T8.K.size (Nat.le_refl _)) ?_
             intro v9 w9 O9 hg9)
          | (at_builtin
             refine wpList_append_bt rfl _ _ rfl w.heap.size _ [] rfl (OB.empty X3.K.size) (.slice A3 (framedD (snapL s)).length c3) (framedD (snapL s)) rfl ((HBo.out.below ((Below.refl _ _).alloc (Nat.le_refl _) _) (Nat.le_refl _))) Ro.out (by simp; omega) (X3.K.alloc X3.K.size _).size ?_
             intro v8 w8 O8 hg8
             replace O8 : OB w8 w.heap.size v8 (framedD (snapL s)) := by simpa using O8
             have hb8 : Below w3.heap.size w3 w8 := ((Below.refl _ _).alloc (Nat.le_refl _) _).grown hg8 (by simp) (fun r hr => Nat.le_of_eq (Option.some.inj hr))
             have K8 := HK_w3.out.trans (hb8.mono HK_w3.out.size)
             have T8 := X3.step hb8
             clear hg8 hb8))
        have KW : Below w.heap.size w w9 := T8.K.grown hg9 T8.K.size (fun r hr => (OB.lt O8 hr).1)
        go_ret3
        rw [HA.out]
        exact Written.yes KW O9
      · have HA : Hid (ans = none) := Lib.hid (by rw [← HA0.out]; unfold writeD; rw [HW.out, if_neg H1.out, if_neg h2]; rfl)
        have i4 : (1200 : Int) < ((framedD (snapL s)).length : Int) + ((framedD l).length : Int) := by omega
        go_wp2_with fail
        go_ret3
        rw [HA.out]
        exact Written.no (X3.K.alloc X3.K.size _)
end Go.Proofs.YtdkmhaghnfhajaaGreat
/- Zi -/
set_option linter.unusedVariables false
namespace Go.Proofs.YtdkmhaghnfhajaaGreat
open Go.RowKit

/-- Chapter 15: what an agent makes of an order, of a right state. -/
def obeyD (d : PlanD) (s : StD) (st : List Nat) (k a b : Int) : (StD × List Nat) × Int :=
  if (plannedD d s k a b).2 = 0 then
    (match writeD s st (plannedD d s k a b).1 with
     | some x => (((allS d s (plannedD d s k a b).1).1, x.1), 0)
     | none => ((s, st), 8))
  else ((s, st), (plannedD d s k a b).2)
theorem all_ok {d : PlanD} {s : StD} {l : List RecD} (h : StOk d s) : StOk d (allS d s l).1 := by
  unfold allS
  split
  · rename_i x hx
    exact runR_ok h hx
  · exact h
theorem obey_ok {d : PlanD} {s : StD} {st : List Nat} {k a b : Int} (h : StOk d s) (hst : st.length ≤ 1200) : StOk d (obeyD d s st k a b).1.1 ∧ (obeyD d s st k a b).1.2.length ≤ 1200 := by
  unfold obeyD
  split
  · split
    · rename_i x hx
      exact ⟨all_ok h, writeD_len hx⟩
    · exact ⟨h, hst⟩
  · exact ⟨h, hst⟩
theorem st_small {d : PlanD} {t : StD} (h : StOk d t) : t.pods.length ≤ 12 ∧ t.mnts.length ≤ 12 ∧ t.devs.length ≤ 12 ∧ t.lks.length ≤ 12 := by
  have hp := h.plan
  have h1 := h.np
  have h2 := h.nm
  have h3 := h.nd
  simp only [planOkB, sizesB, Bool.and_eq_true, decide_eq_true_eq] at hp
  have h4 : t.lks.length ≤ 8 := by
    have hr := h.rise
    have hl := h.lks
    have := rise_len (a := 0) hr hl (by omega)
    omega
  omega
theorem load_agent {ops : Array Oper} {rest : List Oper} {dst : Option Tmp} {ty : TypeId} {pos : String} {after : Array Edge} {a : Act} {w : World} {Q : Exit → Act → World → Prop} {g x : Nat} {cs : Array Value}
    (hx : a.eval (.tmp x) = .pointer (some ⟨g, 0, none⟩)) (hg : w.heap[g]? = some (.cells cs 49)) (hi : (Tryz.prog.info? 49).map (·.size) = some cs.size)
    (h : wpList Tryz.prog ops Q rest (a.put dst (.agg cs)) w) : wpList Tryz.prog ops Q (Oper.mk dst (.load 49 (.tmp x)) ty pos after none :: rest) a w :=
  wpList_load_row rfl 49 (.tmp x) rfl g hx _ cs _ _ hg Tryz.underlying49 rfl hi h
theorem store_agent {ops : Array Oper} {rest : List Oper} {dst : Option Tmp} {ty : TypeId} {pos : String} {after : Array Edge} {a : Act} {w : World} {Q : Exit → Act → World → Prop} {g x y : Nat} {cs old : Array Value}
    (hx : a.eval (.tmp x) = .pointer (some ⟨g, 0, none⟩)) (hy : a.eval (.tmp y) = .agg cs) (hg : w.heap[g]? = some (.cells old 49)) (hi : (Tryz.prog.info? 49).map (·.size) = some cs.size) (hold : old.size = cs.size) (h1 : cs.all (·.oneCell') = true)
    (h : wpList Tryz.prog ops Q rest (a.put dst undef) (w.setRow g cs)) : wpList Tryz.prog ops Q (Oper.mk dst (.store 49 (.tmp x) (.tmp y)) ty pos after none :: rest) a w :=
  wpList_store_row rfl 49 (.tmp x) (.tmp y) rfl g cs hx hy 49 old hg hi hold h1 h
theorem Own.setRow {w W : World} {g T : Nat} {cs old : Array Value} (h : Own w W g old) (hh : W.heap[g]? = some (.cells old T (0, 0))) (hg : w.heap.size ≤ g) : Own w (W.setRow g cs) g cs :=
  ⟨below_setRow h.K hg _, by rw [size_setRow]; exact h.z, fun o => cell_of_row _ _ _ _ _ _ (setRow_heap W g _ cs _ _ hh), fun o => frozen_of_row _ _ _ _ _ (setRow_heap W g _ cs _ _ hh)⟩
theorem Own.farKeeps {w w1 w2 : World} {g h : Nat} {cs : Array Value} (H : Own w w1 g cs) (k : Keeps (· = h) w1 w2) (h0 : w.heap.size ≤ h) (hn : g ≠ h) : Own w w2 g cs := H.keeps k (fun b hb => by omega) (fun e => hn e)
section
variable (W : World) (g : Nat) (y0 y1 y2 y3 y4 y5 y6 y7 y8 y9 y10 y11 : Value)
/-- The world with an agent's state set. -/
abbrev put7 : World := (((((((((((W.setCell ⟨g, 7, none⟩ y0).setCell ⟨g, 8, none⟩ y1).setCell ⟨g, 9, none⟩ y2).setCell ⟨g, 10, none⟩ y3).setCell ⟨g, 11, none⟩ y4).setCell ⟨g, 12, none⟩ y5).setCell ⟨g, 13, none⟩ y6).setCell ⟨g, 14, none⟩ y7).setCell ⟨g, 15, none⟩ y8).setCell ⟨g, 16, none⟩ y9).setCell ⟨g, 17, none⟩ y10).setCell ⟨g, 18, none⟩ y11
theorem keeps_put7 : Keeps (· = g) W (put7 W g y0 y1 y2 y3 y4 y5 y6 y7 y8 y9 y10 y11) := by
  unfold put7
  iterate 12 (refine Keeps.set (S := (· = g)) ?_ rfl _)
  exact Keeps.refl _ _
end
theorem heap_put7 {W : World} {g T : Nat} {x0 x1 x2 x3 x4 x5 x6 x7 x8 x9 x10 x11 x12 x13 x14 x15 x16 x17 x18 x19 y0 y1 y2 y3 y4 y5 y6 y7 y8 y9 y10 y11 : Value} (h : W.heap[g]? = some (.cells #[x0, x1, x2, x3, x4, x5, x6, x7, x8, x9, x10, x11, x12, x13, x14, x15, x16, x17, x18, x19] T (0, 0))) : (put7 W g y0 y1 y2 y3 y4 y5 y6 y7 y8 y9 y10 y11).heap[g]? = some (.cells #[x0, x1, x2, x3, x4, x5, x6, y0, y1, y2, y3, y4, y5, y6, y7, y8, y9, y10, y11, x19] T (0, 0)) := by
  unfold put7
  have h0 := heap_setCell_same W g 7 _ _ y0 h
  have h1 := heap_setCell_same (W.setCell ⟨g, 7, none⟩ y0) g 8 _ _ y1 h0
  have h2 := heap_setCell_same ((W.setCell ⟨g, 7, none⟩ y0).setCell ⟨g, 8, none⟩ y1) g 9 _ _ y2 h1
  have h3 := heap_setCell_same (((W.setCell ⟨g, 7, none⟩ y0).setCell ⟨g, 8, none⟩ y1).setCell ⟨g, 9, none⟩ y2) g 10 _ _ y3 h2
  have h4 := heap_setCell_same ((((W.setCell ⟨g, 7, none⟩ y0).setCell ⟨g, 8, none⟩ y1).setCell ⟨g, 9, none⟩ y2).setCell ⟨g, 10, none⟩ y3) g 11 _ _ y4 h3
  have h5 := heap_setCell_same (((((W.setCell ⟨g, 7, none⟩ y0).setCell ⟨g, 8, none⟩ y1).setCell ⟨g, 9, none⟩ y2).setCell ⟨g, 10, none⟩ y3).setCell ⟨g, 11, none⟩ y4) g 12 _ _ y5 h4
  have h6 := heap_setCell_same ((((((W.setCell ⟨g, 7, none⟩ y0).setCell ⟨g, 8, none⟩ y1).setCell ⟨g, 9, none⟩ y2).setCell ⟨g, 10, none⟩ y3).setCell ⟨g, 11, none⟩ y4).setCell ⟨g, 12, none⟩ y5) g 13 _ _ y6 h5
  have h7 := heap_setCell_same (((((((W.setCell ⟨g, 7, none⟩ y0).setCell ⟨g, 8, none⟩ y1).setCell ⟨g, 9, none⟩ y2).setCell ⟨g, 10, none⟩ y3).setCell ⟨g, 11, none⟩ y4).setCell ⟨g, 12, none⟩ y5).setCell ⟨g, 13, none⟩ y6) g 14 _ _ y7 h6
  have h8 := heap_setCell_same ((((((((W.setCell ⟨g, 7, none⟩ y0).setCell ⟨g, 8, none⟩ y1).setCell ⟨g, 9, none⟩ y2).setCell ⟨g, 10, none⟩ y3).setCell ⟨g, 11, none⟩ y4).setCell ⟨g, 12, none⟩ y5).setCell ⟨g, 13, none⟩ y6).setCell ⟨g, 14, none⟩ y7) g 15 _ _ y8 h7
  have h9 := heap_setCell_same (((((((((W.setCell ⟨g, 7, none⟩ y0).setCell ⟨g, 8, none⟩ y1).setCell ⟨g, 9, none⟩ y2).setCell ⟨g, 10, none⟩ y3).setCell ⟨g, 11, none⟩ y4).setCell ⟨g, 12, none⟩ y5).setCell ⟨g, 13, none⟩ y6).setCell ⟨g, 14, none⟩ y7).setCell ⟨g, 15, none⟩ y8) g 16 _ _ y9 h8
  have h10 := heap_setCell_same ((((((((((W.setCell ⟨g, 7, none⟩ y0).setCell ⟨g, 8, none⟩ y1).setCell ⟨g, 9, none⟩ y2).setCell ⟨g, 10, none⟩ y3).setCell ⟨g, 11, none⟩ y4).setCell ⟨g, 12, none⟩ y5).setCell ⟨g, 13, none⟩ y6).setCell ⟨g, 14, none⟩ y7).setCell ⟨g, 15, none⟩ y8).setCell ⟨g, 16, none⟩ y9) g 17 _ _ y10 h9
  have h11 := heap_setCell_same (((((((((((W.setCell ⟨g, 7, none⟩ y0).setCell ⟨g, 8, none⟩ y1).setCell ⟨g, 9, none⟩ y2).setCell ⟨g, 10, none⟩ y3).setCell ⟨g, 11, none⟩ y4).setCell ⟨g, 12, none⟩ y5).setCell ⟨g, 13, none⟩ y6).setCell ⟨g, 14, none⟩ y7).setCell ⟨g, 15, none⟩ y8).setCell ⟨g, 16, none⟩ y9).setCell ⟨g, 17, none⟩ y10) g 18 _ _ y11 h10
  simp only [List.setIfInBounds_toArray, List.set_cons_zero, List.set_cons_succ] at h11
  exact h11
end Go.Proofs.YtdkmhaghnfhajaaGreat
