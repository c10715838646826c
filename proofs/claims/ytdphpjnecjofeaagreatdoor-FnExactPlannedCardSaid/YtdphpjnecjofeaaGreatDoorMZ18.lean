/-
  The model's l11Shutting.
-/
import Derived.Test.YtdphpjnecjofeaaGreatDoorMZ9
import Derived.Test.YtdphpjnecjofeaaGreatDoorMZ11
import Derived.Test.YtdphpjnecjofeaaGreatDoorMZ2
import Derived.Deep.DeepCutAuto
/- Ti -/
set_option linter.unusedVariables false
namespace Go.Proofs.YtdphpjnecjofeaaGreatDoor
open Go.RowKit

def failG (s : StD) (i : Nat) : Option Int := if aliveB (podAt s i).1 then some 5 else none
def looseG (s : StD) (i : Nat) : Option (Bool × Int) := if (mntAt s i).1 then some (false, 0) else none
def emptyG (s : StD) (i : Nat) : Option Unit := if devAt s i then some () else none
def bootL (d : PlanD) (s : StD) (id : Int) : List RecD :=
  ⟨10, id, 0⟩ :: (recsOf d.n0 (failG s) (fun i x => ⟨2, i, x⟩) ++ (recsOf d.n2 (looseG s) mntRec ++ (recsOf d.n3 (emptyG s) (fun i _ => ⟨5, i, 0⟩) ++
    (s.lks.map (fun x => ⟨7, x, 0⟩) ++ ⟨12, 0, 0⟩ :: (if s.ph = 8 then [] else [⟨1, 6, 0⟩])))))
/-- A probe. -/
def probeN (s : StD) (good : Bool) : Int := if good then s.gd + 1 else 0
def probeL (d : PlanD) (s : StD) (good : Bool) : List RecD :=
  ⟨12, probeN s good, s.pr + 1⟩ :: (if d.p ≤ probeN s good then [⟨1, 0, 0⟩] else if d.t ≤ s.pr + 1 then [⟨1, 8, 0⟩] else if s.ph = 6 then [⟨1, 7, 0⟩] else [])
end Go.Proofs.YtdphpjnecjofeaaGreatDoor
/- Wj -/
set_option linter.unusedVariables false
namespace Go.Proofs.YtdphpjnecjofeaaGreatDoor
open Go.RowKit

theorem Own.low {w w1 w2 : World} {g B : Nat} {cs : Array Value} (h : Own w w1 g cs) (hb : Below B w1 w2) (h0 : w.heap.size ≤ B) (hg : g < B) : Own w w2 g cs :=
  ⟨h.K.trans (hb.mono h0), Nat.lt_of_lt_of_le h.z hb.size, fun o => (hb.cell (p := ⟨g, o, none⟩) hg).trans (h.C o), fun o => (hb.frozen (p := ⟨g, o, none⟩) hg).trans (h.F o)⟩
theorem Two.low {w w1 w2 : World} {B : Nat} {cs os : Array Value} (h : Two w w1 cs os) (hb : Below B w1 w2) (hB : w.heap.size + 2 ≤ B) : Two w w2 cs os := ⟨h.A.low hb (by omega) (by omega), h.O.low hb (by omega) (by omega)⟩
theorem SlV.one_cell_recs (l : List RecD) : ∀ u ∈ recVs l, u.oneCell' = true := by
  intro u hu
  simp only [recVs, List.mem_map] at hu
  obtain ⟨x, -, rfl⟩ := hu
  rfl
theorem recVs_len (l : List RecD) : (recVs l).length = l.length * 3 := by simp [recVs, flat_length]
theorem recVs_append (l m : List RecD) : recVs (l ++ m) = recVs l ++ recVs m := by simp [recVs, flat_append]
/-- Records appended to a list of one's own. -/
theorem append_recs {w : World} {ops : Array Oper} {rest : List Oper} {o : Oper} {a : Act} {Q : Exit → Act → World → Prop} {B B2 m c : Nat} {v : Value} {l l2 : List RecD} {A : Option Addr} (s x : Operand) (hgd : o.guard = none)
    (ho : o.op = .call { callee := .builtin .append, args := #[s, x], argTypes := #[60, 60] }) (hs : a.eval s = v) (O : OR w B v l) (hx : a.eval x = .slice A m c) (hr : A = none → c = 0) (R : SlV w B2 3 A m (recVs l2)) (hlen : l.length + l2.length ≤ 1000000) (hB : B ≤ w.heap.size)
    (h : ∀ v' w', OR w' B v' (l ++ l2) → Below B w w' → Keeps (fun b => v.ownBlock = some b) w w' → wpList Tryz.prog ops Q rest (a.put o.dst v') w') : wpList Tryz.prog ops Q (o :: rest) a w := by
  obtain ⟨i0, hi, hz0, hz1, hz2⟩ := info_parts info_rec
  have hm : l2.length = m := by have := R.len; rw [recVs_len] at this; omega
  refine wpList_append_slv hgd s x 60 50 i0 (.agg #[.int .i64 0, .int .i64 0, .int .i64 0]) 3 24 ho Tryz.underlying60 hi hz0 hz1 hz2 rfl (by decide) (by decide) B v l.length (recVs l) hs O A m c (recVs l2) hx hr R (SlV.one_cell_recs l2) (by omega) hB ?_
  intro v' w' hown hg
  refine h v' w' ?_ ((Below.refl _ _).grown hg hB fun r hr => (O.lt hr).1) ⟨hg.os, hg.tape, hg.output, hg.size, fun b hb hn => hg.block b hb fun e => hn e.symm⟩
  unfold OR
  rw [List.length_append, recVs_append, hm]
  exact hown
/-- One record, just built, appended. -/
theorem append_rec {w : World} {ops : Array Oper} {rest : List Oper} {o : Oper} {a : Act} {Q : Exit → Act → World → Prop} {B g : Nat} {v : Value} {l : List RecD} (rk ra rb : Int) (s x : Operand) (hgd : o.guard = none)
    (ho : o.op = .call { callee := .builtin .append, args := #[s, x], argTypes := #[60, 60] }) (hs : a.eval s = v) (O : OR w B v l) (hg : w.heap.size = g) (hx : a.eval x = .slice (some ⟨g, 0, none⟩) 1 1) (hlen : l.length + 1 ≤ 1000000) (hB : B ≤ w.heap.size)
    (h : ∀ v' w', OR w' B v' (l ++ [⟨rk, ra, rb⟩]) → Below B w w' → Keeps (fun b => v.ownBlock = some b) w w' → wpList Tryz.prog ops Q rest (a.put o.dst v') w') : wpList Tryz.prog ops Q (o :: rest) a (w.alloc (.cells #[.int .i64 rk, .int .i64 ra, .int .i64 rb] 50)) := by
  subst hg
  have hb : Below B w (w.alloc (.cells #[.int .i64 rk, .int .i64 ra, .int .i64 rb] 50)) := (Below.refl _ _).alloc hB _
  refine append_recs (l2 := [⟨rk, ra, rb⟩]) (B2 := w.heap.size + 1) s x hgd ho hs (O.below ((Below.refl _ _).alloc (Nat.le_refl _) _)) hx (fun e => by cases e) ⟨rfl, fun hn => ⟨w.heap.size, 0, rfl, by omega, fun j hj => ?_⟩⟩ hlen (Nat.le_trans hB hb.size) ?_
  · rw [Nat.zero_add, cell_new]
    match j, hj with
    | 0, _ => rfl
    | 1, _ => rfl
    | 2, _ => rfl
  · intro v' w' O' hb' hk'
    exact h v' w' O' (hb.trans hb') ((Keeps.of_below ((Below.refl _ _).alloc (Nat.le_refl _) _)).trans hk')
theorem OR.slv {w : World} {B : Nat} {v : Value} {l : List RecD} (h : OR w B v l) : ∃ A c, v = .slice A l.length c ∧ (A = none → c = 0) ∧ SlV w w.heap.size 3 A l.length (recVs l) := open_rowR h
theorem recs_start (w : World) (cs os : Array Value) (t t' : TypeId) : Two w (((w.alloc (.cells cs t)).alloc (.cells os t')).alloc (.cells #[] 50)) cs os ∧ OR (((w.alloc (.cells cs t)).alloc (.cells os t')).alloc (.cells #[] 50)) (w.heap.size + 2) (.slice (some ⟨w.heap.size + 1 + 1, 0, none⟩) 0 0) [] := by
  have T0 := Two.start w cs os t t'
  have O1 : OR _ (w.heap.size + 2) _ [] := OR.empty (w := (w.alloc (.cells cs t)).alloc (.cells os t')) T0.O.z
  have e : ((w.alloc (.cells cs t)).alloc (.cells os t')).heap.size = w.heap.size + 1 + 1 := by simp
  rw [e] at O1
  exact ⟨T0.step ((Below.refl _ _).alloc (Nat.le_refl _) _), O1⟩

theorem recsOf_next {α : Type} (n : Nat) (g : Nat → Option α) (r : Nat → α → RecD) : recsOf (n + 1) g r = recsOf n g r ++ (match g n with | some x => [r n x] | none => []) := by
  cases h : g n with
  | none => rw [recsOf_none h]; simp
  | some x => rw [recsOf_some h]

def anyUp {α : Type} (l : List α) (p : α → Bool) (z : α) (k : Nat) : Prop := ∀ j, j < k → p (l.getD j z) = false
theorem any_none {α : Type} {l : List α} {p : α → Bool} {z : α} (h : anyUp l p z l.length) : l.any p = false := by
  rw [List.any_eq_false]
  intro x hx
  obtain ⟨j, hj, rfl⟩ := List.mem_iff_getElem.1 hx
  have := h j hj
  rw [List.getD_eq_getElem?_getD, List.getElem?_eq_getElem hj] at this
  simpa using this
theorem any_some {α : Type} {l : List α} {p : α → Bool} {z : α} {j : Nat} (hj : j < l.length) (h : p (l.getD j z) = true) : l.any p = true := by
  rw [List.getD_eq_getElem?_getD, List.getElem?_eq_getElem hj] at h
  exact List.any_eq_true.2 ⟨_, List.getElem_mem hj, by simpa using h⟩
theorem anyUp_next {α : Type} {l : List α} {p : α → Bool} {z : α} {k : Nat} (h : anyUp l p z k) (hk : p (l.getD k z) = false) : anyUp l p z (k + 1) := fun j hj => by
  by_cases e : j = k
  · rw [e]; exact hk
  · exact h j (by omega)
set_option maxRecDepth 4000 in
set_option maxHeartbeats 4000000 in
theorem l11Held_any (sv : Value) (s : StD) (w : World) (hs : IsSt w w.heap.size sv s) :
    Calls Tryz.prog 224 #[sv] w fun e w' => e = .returned (.bool (heldB s)) ∧ Below w.heap.size w w' := by
  obtain ⟨⟨A0, A1, A2, A3, c0, c1, c2, c3, rfl, -, t1, t2, -⟩, -, f1, f2, -⟩ := hs
  have R1 := Lib.hid t1
  have R2 := Lib.hid t2
  unfold maxLen at f1 f2
  clear t1 t2
  obtain ⟨ans, hans⟩ : ∃ ans, heldB s = ans := ⟨_, rfl⟩
  rw [hans]
  have HANS := Lib.hid hans
  clear hans
  have HB : Hid (ans = (s.mnts.any (fun q => q.1) || s.devs.any (fun x => x))) := Lib.hid (by rw [← HANS.out]; rfl)
  have X0 := Own.box w (stC A0 A1 A2 A3 s.pods.length c0 s.mnts.length c1 s.devs.length c2 s.lks.length c3 s.ph s.co s.ck s.bo s.ba s.lb s.gd s.pr) 40
  go_enter Tryz.func224, Tryz.ntmps224
  go_wp2_with fail
  go_loopw [3] (fun j wr => ∃ k : Nat, k ≤ s.mnts.length ∧ j = .int .i64 k ∧ Hid (anyUp s.mnts (fun q => q.1) (false, 0) k) ∧ Own w wr w.heap.size (stC A0 A1 A2 A3 s.pods.length c0 s.mnts.length c1 s.devs.length c2 s.lks.length c3 s.ph s.co s.ck s.bo s.ba s.lb s.gd s.pr)) (fun j _ => s.mnts.length - (intOf j).toNat)
  case atStart => exact ⟨0, Nat.zero_le _, rfl, Lib.hid fun j hj => absurd hj (by omega), X0⟩
  case round =>
    clear X0
    obtain ⟨k, hk, rfl, HALL, X⟩ := hrel
    have hC := X.C
    by_cases hlt : k < s.mnts.length
    · obtain ⟨b', off', rfl, hb', hc⟩ := (R1.out.below X.K (Nat.le_refl _)).cell hlt
      have p0 := (hc 0 (by decide)).trans (mntCs_at s.mnts (i := k) hlt).1
      rw [Nat.add_zero] at p0
      clear hc
      have HYES : Hid ((mntA s.mnts k).1 = true → ans = true) := Lib.hid fun h => by rw [HB.out, any_some hlt h]; rfl
      have HNO : Hid ((mntA s.mnts k).1 = false → anyUp s.mnts (fun q => q.1) (false, 0) (k + 1)) := Lib.hid fun h => anyUp_next HALL.out h
      generalize (mntA s.mnts k).1 = x at p0 HYES HNO
      cases x
      · go_wp2
        refine ⟨⟨k + 1, by omega, by go_num, Lib.hid (HNO.out (by first | trivial | rfl)), X⟩, by simp [intOf]; omega⟩
      · go_wp2
        all_goals (go_ret; exact ⟨ret_bool (HYES.out (by first | trivial | rfl)).symm, X.K⟩)
    · obtain rfl : k = s.mnts.length := by omega
      have HM := Lib.hid (any_none HALL.out)
      go_wp2_with fail
      go_loopw [4] (fun j wr => ∃ k : Nat, k ≤ s.devs.length ∧ j = .int .i64 k ∧ Hid (anyUp s.devs (fun x => x) false k) ∧ Own w wr w.heap.size (stC A0 A1 A2 A3 s.pods.length c0 s.mnts.length c1 s.devs.length c2 s.lks.length c3 s.ph s.co s.ck s.bo s.ba s.lb s.gd s.pr)) (fun j _ => s.devs.length - (intOf j).toNat)
      case atStart => exact ⟨0, Nat.zero_le _, rfl, Lib.hid fun j hj => absurd hj (by omega), X⟩
      case round =>
        clear X hC HALL
        obtain ⟨k, hk, rfl, HALL, X⟩ := hrel
        have hC := X.C
        by_cases hlt : k < s.devs.length
        · obtain ⟨b', off', rfl, hb', hc⟩ := (R2.out.below X.K (Nat.le_refl _)).cell hlt
          have p0 := (hc 0 (by decide)).trans (devCs_at s.devs (i := k * 1 + 0) (by omega))
          rw [Nat.add_zero, Nat.mul_one] at p0
          clear hc
          have HYES : Hid (devA s.devs k = true → ans = true) := Lib.hid fun h => by rw [HB.out, any_some (l := s.devs) (p := fun x => x) (z := false) hlt h]; simp
          have HNO : Hid (devA s.devs k = false → anyUp s.devs (fun x => x) false (k + 1)) := Lib.hid fun h => anyUp_next HALL.out h
          generalize devA s.devs k = x at p0 HYES HNO
          cases x
          · go_wp2
            refine ⟨⟨k + 1, by omega, by go_num, Lib.hid (HNO.out (by first | trivial | rfl)), X⟩, by simp [intOf]; omega⟩
          · go_wp2
            all_goals (go_ret; exact ⟨ret_bool (HYES.out (by first | trivial | rfl)).symm, X.K⟩)
        · obtain rfl : k = s.devs.length := by omega
          have HD := Lib.hid (any_none HALL.out)
          go_wp2
          all_goals (go_ret; exact ⟨ret_bool (by rw [HB.out, HM.out, HD.out]; rfl), X.K⟩)

set_option maxRecDepth 4000 in
set_option maxHeartbeats 8000000 in
theorem l11Releasing_any (pv sv : Value) (d : PlanD) (s : StD) (w : World) (hp : IsPlan w w.heap.size pv d) (hs : IsSt w w.heap.size sv s) (hok : StOk d s) :
    Calls Tryz.prog 207 #[pv, sv] w fun e w' => ∃ v, e = .returned v ∧ OR w' w.heap.size v (releaseL d s) ∧ Below w.heap.size w w' := by
  have HP := Lib.hid hp
  have HS := Lib.hid hs
  obtain ⟨⟨P0, P1, P2, P3, k0, k1, k2, k3, rfl, s0, s1, s2, s3⟩, b0, b1, b2, b3⟩ := hp
  obtain ⟨⟨A0, A1, A2, A3, c0, c1, c2, c3, rfl, t0, t1, t2, t3⟩, f0, f1, f2, f3⟩ := hs
  have S0 := Lib.hid s0
  have S1 := Lib.hid s1
  have S2 := Lib.hid s2
  have S3 := Lib.hid s3
  have R0 := Lib.hid t0
  have R1 := Lib.hid t1
  have R2 := Lib.hid t2
  have R3 := Lib.hid t3
  unfold maxLen at b0 b1 b2 b3 f0 f1 f2 f3
  clear s0 s1 s2 s3 t0 t1 t2 t3
  have T0 := Two.start w (planC P0 P1 P2 P3 d.n0 k0 d.n1 k1 d.n2 k2 d.n3 k3 d.l d.p d.t) (stC A0 A1 A2 A3 s.pods.length c0 s.mnts.length c1 s.devs.length c2 s.lks.length c3 s.ph s.co s.ck s.bo s.ba s.lb s.gd s.pr) 47 40
  have OK := Lib.hid hok
  have HNM := Lib.hid hok.nm
  have HND := Lib.hid hok.nd
  have HSZ := Lib.hid (size_ok hok.plan)
  clear hok
  obtain ⟨ans, hans⟩ : ∃ ans, releaseL d s = ans := ⟨_, rfl⟩
  rw [hans]
  have HANS := Lib.hid hans
  clear hans
  obtain ⟨T1, O1⟩ := recs_start w (planC P0 P1 P2 P3 d.n0 k0 d.n1 k1 d.n2 k2 d.n3 k3 d.l d.p d.t) (stC A0 A1 A2 A3 s.pods.length c0 s.mnts.length c1 s.devs.length c2 s.lks.length c3 s.ph s.co s.ck s.bo s.ba s.lb s.gd s.pr) 47 40
  go_enter Tryz.func207, Tryz.ntmps207
  go_wp2_with fail
  refine (l11Held_any _ s _ ((HS.out.below T1.A.K (Nat.le_refl _)).more T1.A.K.size)).mono ?_
  rintro e w2 ⟨rfl, hb2⟩
  have T2 := T1.step hb2
  have O2 := O1.below hb2
  clear hb2 T0 T1 O1
  have hC := T2.A.C
  have hD := T2.O.C
  cases hh : heldB s
  · have HH : Hid (¬ heldB s = true) := Lib.hid (by rw [hh]; decide)
    have HO := Lib.hid O2
    have HT := Lib.hid T2
    clear hh O2
    go_wp2_with (at_builtin; refine append_rec 1 5 0 _ _ rfl rfl rfl HO.out rfl rfl (by decide) T2.O.z ?_; rintro v' w' O' hb' -)
    go_ret
    exact ⟨_, rfl, by rw [← HANS.out, releaseL, if_neg HH.out]; exact O'.base (by omega), (HT.out.low hb' (Nat.le_refl _)).A.K⟩
  · have HH := Lib.hid hh
    have HANS2 : Hid (ans = recsOf d.n2 (freeG d s) mntRec ++ recsOf d.n3 (giveG d s) (fun i _ => ⟨5, i, 0⟩)) := Lib.hid (by rw [← HANS.out, releaseL, if_pos hh])
    clear hh HANS
    go_wp2_with fail
    go_loopw [5, 6] (fun v i wr => ∃ k : Nat, k ≤ d.n2 ∧ i = .int .i64 k ∧ Hid (OR wr (w.heap.size + 2) v (recsOf k (freeG d s) mntRec)) ∧ Two w wr (planC P0 P1 P2 P3 d.n0 k0 d.n1 k1 d.n2 k2 d.n3 k3 d.l d.p d.t) (stC A0 A1 A2 A3 s.pods.length c0 s.mnts.length c1 s.devs.length c2 s.lks.length c3 s.ph s.co s.ck s.bo s.ba s.lb s.gd s.pr)) (fun _ i _ => d.n2 - (intOf i).toNat)
    case atStart => exact ⟨0, Nat.zero_le _, rfl, Lib.hid O2, T2⟩
    case round =>
      clear O2 T2 hC hD
      obtain ⟨k, hk, rfl, HO, T⟩ := hrel
      have hC := T.A.C
      have hD := T.O.C
      by_cases hlt : k < d.n2
      · have hlm : k < s.mnts.length := by rw [HNM.out]; exact hlt
        go_wp2_with fail
        refine (l9Free_any _ _ d s k _ ((HP.out.below T.A.K (Nat.le_refl _)).more T.A.K.size) ((HS.out.below T.A.K (Nat.le_refl _)).more T.A.K.size) OK.out hlt).mono ?_
        rintro e w3 ⟨rfl, hb3⟩
        have T3 := T.step hb3
        have HO3 := Lib.hid (HO.out.below hb3)
        clear hb3 T HO hC hD
        have hC := T3.A.C
        have hD := T3.O.C
        have HLE : Hid ((recsOf k (freeG d s) mntRec).length ≤ 12) := Lib.hid (by have := recsOf_le k (freeG d s) mntRec; have := HSZ.out; omega)
        obtain ⟨b', off', rfl, hb', hc⟩ := (R1.out.below T3.A.K (Nat.le_refl _)).cell hlm
        have p0 := (hc 1 (by decide)).trans (mntCs_at s.mnts (i := k) hlm).2
        clear hc
        have HN := Lib.hid (recsOf_next k (freeG d s) mntRec)
        have HG : Hid (freeG d s k = if freeB d s k then some (if 0 < (mntA s.mnts k).2 then (true, (mntA s.mnts k).2 - 1) else (false, 0)) else none) := Lib.hid rfl
        have hbusy := (mntAt_ok OK.out hlt).1
        rw [show mntAt s k = mntA s.mnts k from rfl] at hbusy
        generalize (mntA s.mnts k).2 = y at p0 HG hbusy
        generalize freeG d s k = gk at HN HG
        generalize hR : recsOf k (freeG d s) mntRec = done at HN HLE HO3
        clear hR
        cases hf : freeB d s k
        · have HE : Hid (recsOf (k + 1) (freeG d s) mntRec = done) := Lib.hid (by rw [HN.out, HG.out, hf]; simp)
          clear hf
          go_wp2
          refine ⟨⟨k + 1, by omega, by go_num, Lib.hid (by rw [HE.out]; exact HO3.out), T3⟩, by simp [intOf]; omega⟩
        · by_cases hy : 0 < y
          · have HE : Hid (recsOf (k + 1) (freeG d s) mntRec = done ++ [⟨3, k, y - 1⟩]) := Lib.hid (by rw [HN.out, HG.out, hf, if_pos rfl, if_pos hy]; rfl)
            clear hf
            go_wp2_with (at_builtin; refine append_rec 3 k (y - 1) _ _ rfl rfl rfl HO3.out rfl rfl (by have := HLE.out; omega) T3.O.z ?_; rintro v' w' O' hb' -)
            refine ⟨⟨k + 1, by omega, by go_num, Lib.hid (by rw [HE.out]; exact O'), T3.low hb' (Nat.le_refl _)⟩, by simp [intOf]; omega⟩
          · have HE : Hid (recsOf (k + 1) (freeG d s) mntRec = done ++ [⟨4, k, 0⟩]) := Lib.hid (by rw [HN.out, HG.out, hf, if_pos rfl, if_neg hy]; rfl)
            clear hf
            go_wp2_with (at_builtin; refine append_rec 4 k 0 _ _ rfl rfl rfl HO3.out rfl rfl (by have := HLE.out; omega) T3.O.z ?_; rintro v' w' O' hb' -)
            refine ⟨⟨k + 1, by omega, by go_num, Lib.hid (by rw [HE.out]; exact O'), T3.low hb' (Nat.le_refl _)⟩, by simp [intOf]; omega⟩
      · obtain rfl : k = d.n2 := by omega
        have hx : ¬ d.n2 < s.mnts.length := by rw [HNM.out]; omega
        go_wp2_with fail
        go_loopw [5, 7] (fun v i wr => ∃ k : Nat, k ≤ d.n3 ∧ i = .int .i64 k ∧ Hid (OR wr (w.heap.size + 2) v (recsOf d.n2 (freeG d s) mntRec ++ recsOf k (giveG d s) (fun i _ => ⟨5, i, 0⟩))) ∧ Two w wr (planC P0 P1 P2 P3 d.n0 k0 d.n1 k1 d.n2 k2 d.n3 k3 d.l d.p d.t) (stC A0 A1 A2 A3 s.pods.length c0 s.mnts.length c1 s.devs.length c2 s.lks.length c3 s.ph s.co s.ck s.bo s.ba s.lb s.gd s.pr)) (fun _ i _ => d.n3 - (intOf i).toNat)
        case atStart => exact ⟨0, Nat.zero_le _, rfl, Lib.hid (by rw [recsOf_zero, List.append_nil]; exact HO.out), T⟩
        case round =>
          clear HO T hC hD
          obtain ⟨k, hk, rfl, HO, T⟩ := hrel
          have hC := T.A.C
          have hD := T.O.C
          by_cases hlt : k < d.n3
          · have hld : k < s.devs.length := by rw [HND.out]; exact hlt
            go_wp2_with fail
            refine (l9Give_any _ _ d s k _ ((HP.out.below T.A.K (Nat.le_refl _)).more T.A.K.size) ((HS.out.below T.A.K (Nat.le_refl _)).more T.A.K.size) OK.out hlt).mono ?_
            rintro e w3 ⟨rfl, hb3⟩
            have T3 := T.step hb3
            have HO3 := Lib.hid (HO.out.below hb3)
            clear hb3 T HO hC hD
            have HLE : Hid ((recsOf d.n2 (freeG d s) mntRec ++ recsOf k (giveG d s) (fun i _ => ⟨5, i, 0⟩)).length ≤ 24) := Lib.hid (by have := recsOf_le d.n2 (freeG d s) mntRec; have := recsOf_le k (giveG d s) (fun i _ => (⟨5, i, 0⟩ : RecD)); have := HSZ.out; rw [List.length_append]; omega)
            have HN : Hid (recsOf d.n2 (freeG d s) mntRec ++ recsOf (k + 1) (giveG d s) (fun i _ => ⟨5, i, 0⟩) = (recsOf d.n2 (freeG d s) mntRec ++ recsOf k (giveG d s) (fun i _ => ⟨5, i, 0⟩)) ++ (if giveB d s k then [⟨5, k, 0⟩] else [])) := Lib.hid (by
              rw [recsOf_next, List.append_assoc, giveG]
              cases giveB d s k <;> rfl)
            generalize hR : recsOf d.n2 (freeG d s) mntRec ++ recsOf k (giveG d s) (fun i _ => ⟨5, i, 0⟩) = done at HN HLE HO3
            clear hR
            cases hf : giveB d s k
            · have HE : Hid (recsOf d.n2 (freeG d s) mntRec ++ recsOf (k + 1) (giveG d s) (fun i _ => ⟨5, i, 0⟩) = done) := Lib.hid (by rw [HN.out, hf]; simp)
              clear hf
              go_wp2
              refine ⟨⟨k + 1, by omega, by go_num, Lib.hid (by rw [HE.out]; exact HO3.out), T3⟩, by simp [intOf]; omega⟩
            · have HE : Hid (recsOf d.n2 (freeG d s) mntRec ++ recsOf (k + 1) (giveG d s) (fun i _ => ⟨5, i, 0⟩) = done ++ [⟨5, k, 0⟩]) := Lib.hid (by rw [HN.out, hf, if_pos rfl])
              clear hf
              go_wp2_with (at_builtin; refine append_rec 5 k 0 _ _ rfl rfl rfl HO3.out rfl rfl (by have := HLE.out; omega) T3.O.z ?_; rintro v' w' O' hb' -)
              refine ⟨⟨k + 1, by omega, by go_num, Lib.hid (by rw [HE.out]; exact O'), T3.low hb' (Nat.le_refl _)⟩, by simp [intOf]; omega⟩
          · obtain rfl : k = d.n3 := by omega
            have hx2 : ¬ d.n3 < s.devs.length := by rw [HND.out]; omega
            go_wp2
            go_ret
            exact ⟨_, rfl, by rw [HANS2.out]; exact HO.out.base (by omega), T.A.K⟩

end Go.Proofs.YtdphpjnecjofeaaGreatDoor
/- Wk -/
set_option linter.unusedVariables false
namespace Go.Proofs.YtdphpjnecjofeaaGreatDoor
open Go.RowKit

/-- What a pod of the band becomes. -/
def elemG (d : PlanD) (s : StD) (c : Int) (i : Int) : Option RecD :=
  if aliveB (podAt s i.toNat).1 then (if podStep (hookOf d i.toNat) (graceOf d i.toNat) (podAt s i.toNat) c = (podAt s i.toNat).1 then none else some ⟨2, i, podStep (hookOf d i.toNat) (graceOf d i.toNat) (podAt s i.toNat) c⟩) else none
theorem podsL_hits {d : PlanD} (h : planOkB d = true) (b : Int) : podsL d b = ((List.range d.n0).filter (fun i => bandOf d i == b)).map (fun i : Nat => (i : Int)) := by
  unfold podsL
  rw [found_yes h]
  rfl
theorem elem_recs {d : PlanD} {s : StD} (h : planOkB d = true) (b c : Int) : (podsL d b).filterMap (elemG d s c) = recsOf d.n0 (stepG d s b c) (fun i x => ⟨2, i, x⟩) := by
  rw [podsL_hits h, List.filterMap_map, List.filterMap_filter]
  unfold recsOf
  congr 1
  funext i
  simp only [Function.comp, elemG, stepG, Int.toNat_natCast, beq_iff_eq]
  by_cases h1 : bandOf d i = b
  · by_cases h2 : aliveB (podAt s i).1 = true
    · by_cases h3 : podStep (hookOf d i) (graceOf d i) (podAt s i) c = (podAt s i).1 <;> simp [h1, h2, h3]
    · simp [h1, h2]
  · simp [h1]
theorem elem_live {d : PlanD} {s : StD} (h : planOkB d = true) (b : Int) : (podsL d b).any (fun i => aliveB (podAt s i.toNat).1) = liveB d s b := by
  rw [podsL_hits h, List.any_map, List.any_filter]
  unfold liveB
  congr 1
theorem elem_none {d : PlanD} {s : StD} {c : Int} : ∀ {L : List Int}, L.any (fun i => aliveB (podAt s i.toNat).1) = false → L.filterMap (elemG d s c) = []
  | [], _ => rfl
  | i :: L, h => by
    rw [List.any_cons, Bool.or_eq_false_iff] at h
    rw [List.filterMap_cons, elem_none h.2]
    unfold elemG
    rw [h.1]
    rfl
theorem podsL_in {d : PlanD} {b : Int} {k : Nat} (hk : k < (podsL d b).length) : ∃ i : Nat, (podsL d b)[k]? = some (i : Int) ∧ i < d.n0 := by
  obtain ⟨i, hi, e, -⟩ := podsL_at hk
  rw [List.getD_eq_getElem?_getD, List.getElem?_eq_getElem hk] at e
  exact ⟨i, by rw [List.getElem?_eq_getElem hk]; exact congrArg some e, hi⟩
theorem list_at {w : World} {B n c : Nat} {A : Option Addr} {L : List Int} (h : w.ownsRow B 2 1 (.slice A n c) n (L.map (Value.int .i64))) {k : Nat} {x : Int} (hx : L[k]? = some x) :
    ∃ b off, A = some ⟨b, off, none⟩ ∧ b < w.heap.size ∧ w.cell? ⟨b, off + k, none⟩ = some (.int .i64 x) := by
  obtain ⟨A', c', e, -, S⟩ := open_rowR h
  injection e with e1 e2 e3
  subst e1 e3
  have hl := S.len
  have hk : k < L.length := (List.getElem?_eq_some_iff.1 hx).1
  obtain ⟨b, off, rfl, hb, hc⟩ := S.cell (i := k) (by simp at hl; omega)
  have := hc 0 (by decide)
  rw [Nat.add_zero, Nat.mul_one, Nat.add_zero] at this
  exact ⟨b, off, rfl, hb, this.trans (by simp [hx])⟩
theorem two_row {w : World} {g : Nat} {x y : Value} {t : TypeId} (h : w.heap[g]? = some (.cells #[x, y] t)) : ∀ o, w.cell? ⟨g, o, none⟩ = #[x, y][o]? := fun o => cell_of_row _ _ _ _ _ _ h
theorem take_at {L : List Int} {k : Nat} {i : Int} (h : L[k]? = some i) : L.take (k + 1) = L.take k ++ [i] := by
  rw [List.take_add_one, h]
  rfl
theorem shutL_live {d : PlanD} {s : StD} {c : Int} (hp : planOkB d = true) (h1 : ¬ (s.lks ≠ [] ∧ c < s.lb)) (h2 : ¬ s.ba = 6) (h3 : (podsL d s.ba).any (fun i => aliveB (podAt s i.toNat).1) = true) : shutL d s c = (podsL d s.ba).filterMap (elemG d s c) := by
  unfold shutL
  rw [if_neg h1, if_neg h2, if_pos (by rw [← elem_live hp]; exact h3), elem_recs hp]
theorem shutL_dead {d : PlanD} {s : StD} {c : Int} (hp : planOkB d = true) (h1 : ¬ (s.lks ≠ [] ∧ c < s.lb)) (h2 : ¬ s.ba = 6) (h3 : (podsL d s.ba).any (fun i => aliveB (podAt s i.toNat).1) = false) : shutL d s c = (podsL d s.ba).filterMap (elemG d s c) ++ [⟨9, nextB d s.ba, 0⟩] := by
  unfold shutL
  rw [if_neg h1, if_neg h2, if_neg (by rw [← elem_live hp, h3]; decide), elem_none h3]
  rfl

set_option maxRecDepth 4000 in
set_option maxHeartbeats 16000000 in
theorem l11Shutting_any (pv sv : Value) (d : PlanD) (s : StD) (c : Int) (w : World) (hp : IsPlan w w.heap.size pv d) (hs : IsSt w w.heap.size sv s) (hok : StOk d s) (hc : 0 ≤ c ∧ c ≤ 1000001) :
    Calls Tryz.prog 206 #[pv, sv, .int .i64 c] w fun e w' => ∃ v, e = .returned v ∧ OR w' w.heap.size v (shutL d s c) ∧ Below w.heap.size w w' := by
  have HP := Lib.hid hp
  have HS := Lib.hid hs
  obtain ⟨⟨P0, P1, P2, P3, k0, k1, k2, k3, rfl, s0, s1, s2, s3⟩, b0, b1, b2, b3⟩ := hp
  obtain ⟨⟨A0, A1, A2, A3, c0, c1, c2, c3, rfl, t0, t1, t2, t3⟩, f0, f1, f2, f3⟩ := hs
  have S0 := Lib.hid s0
  have S1 := Lib.hid s1
  have S2 := Lib.hid s2
  have S3 := Lib.hid s3
  have R0 := Lib.hid t0
  have R1 := Lib.hid t1
  have R2 := Lib.hid t2
  have R3 := Lib.hid t3
  unfold maxLen at b0 b1 b2 b3 f0 f1 f2 f3
  clear s0 s1 s2 s3 t0 t1 t2 t3
  have T0 := Two.start w (planC P0 P1 P2 P3 d.n0 k0 d.n1 k1 d.n2 k2 d.n3 k3 d.l d.p d.t) (stC A0 A1 A2 A3 s.pods.length c0 s.mnts.length c1 s.devs.length c2 s.lks.length c3 s.ph s.co s.ck s.bo s.ba s.lb s.gd s.pr) 47 40
  have OK := Lib.hid hok
  have HNP := Lib.hid hok.np
  have HSZ := Lib.hid (size_ok hok.plan)
  have HCK := Lib.hid hc
  clear hok hc
  obtain ⟨ans, hans⟩ : ∃ ans, shutL d s c = ans := ⟨_, rfl⟩
  rw [hans]
  have HANS := Lib.hid hans
  clear hans
  obtain ⟨T1, O1⟩ := recs_start w (planC P0 P1 P2 P3 d.n0 k0 d.n1 k1 d.n2 k2 d.n3 k3 d.l d.p d.t) (stC A0 A1 A2 A3 s.pods.length c0 s.mnts.length c1 s.devs.length c2 s.lks.length c3 s.ph s.co s.ck s.bo s.ba s.lb s.gd s.pr) 47 40
  have hC := T1.A.C
  have hD := T1.O.C
  clear T0
  have HO := Lib.hid O1
  have HT := Lib.hid T1
  have HE : Hid (s.lks ≠ [] ↔ 0 < s.lks.length) := Lib.hid List.length_pos_iff.symm
  by_cases hwait : 0 < s.lks.length ∧ c < s.lb
  · obtain ⟨hl1, hl2⟩ := hwait
    have HW : Hid (s.lks ≠ [] ∧ c < s.lb) := Lib.hid ⟨HE.out.2 hl1, hl2⟩
    go_enter Tryz.func206, Tryz.ntmps206
    go_wp2
    all_goals (go_ret; exact ⟨_, rfl, by rw [← HANS.out, shutL, if_pos HW.out]; exact HO.out.base (by omega), HT.out.A.K⟩)
  · have HW : Hid (¬ (s.lks ≠ [] ∧ c < s.lb)) := Lib.hid fun h => hwait ⟨HE.out.1 h.1, h.2⟩
    cases h6 : (s.ba == 6)
    case true =>
      have H6 : Hid (s.ba = 6) := Lib.hid (by simpa using h6)
      by_cases hl : 0 < s.lks.length
      all_goals
        try (have hlb : ¬ c < s.lb := fun h => hwait ⟨hl, h⟩)
        clear hwait
        go_enter Tryz.func206, Tryz.ntmps206
        go_wp2_with (at_builtin; refine append_rec 1 4 0 _ _ rfl rfl rfl HO.out (by simp) rfl (by decide) HT.out.O.z ?_; rintro v' w' O' hb' -)
        all_goals (go_ret; exact ⟨_, rfl, by rw [← HANS.out, shutL, if_neg HW.out, if_pos H6.out]; exact O'.base (by omega), (HT.out.low hb' (Nat.le_refl _)).A.K⟩)
    case false =>
      have H6 : Hid (¬ s.ba = 6) := Lib.hid (by simpa using h6)
      have HLV := Lib.hid (fun h3 => (shutL_live OK.out.plan HW.out H6.out h3).symm.trans HANS.out)
      have HDD := Lib.hid (fun h3 => (shutL_dead OK.out.plan HW.out H6.out h3).symm.trans HANS.out)
      by_cases hl : 0 < s.lks.length
      all_goals
        try (have hlb : ¬ c < s.lb := fun h => hwait ⟨hl, h⟩)
        clear hwait
        go_enter Tryz.func206, Tryz.ntmps206
        go_wp2_with fail
        refine (specPods_any _ d _ _ ((HP.out.below HT.out.A.K (Nat.le_refl _)).more HT.out.A.K.size) (by have := HSZ.out; omega)).mono ?_
        rintro e w2 ⟨vL, rfl, OL, hb⟩
        have T2 := HT.out.step hb
        have O2 := HO.out.below hb
        have HPL := Lib.hid (fun (k : Nat) (hk : k < (podsL d s.ba).length) => podsL_in hk)
        have HPN : Hid ((podsL d s.ba).length ≤ 12) := Lib.hid (by have := podsL_le d s.ba; have := HSZ.out; omega)
        have hlen : (podsL d s.ba).length ≤ 2 ^ 63 - 1 := by have := HPN.out; omega
        have hba := OK.out.ba
        clear hb hC hD O1 T1 h6
        obtain ⟨AL, cL, rfl, -, SL⟩ := open_rowR OL
        clear SL
        generalize podsL d s.ba = L at OL HLV HDD HPL HPN hlen ⊢
        have OL := ownsRow_base OL HT.out.O.z
        go_wp2_with fail
        go_loopw [7, 8, 10] (fun v lv j wr => ∃ k : Nat, k ≤ L.length ∧ j = .int .i64 k ∧ lv = .bool ((L.take k).any (fun i => aliveB (podAt s i.toNat).1)) ∧ Hid (OR wr (w.heap.size + 2) v ((L.take k).filterMap (elemG d s c))) ∧
          Hid (wr.ownsRow (w.heap.size + 2) 2 1 (.slice AL L.length cL) L.length (L.map (Value.int .i64))) ∧ Two w wr (planC P0 P1 P2 P3 d.n0 k0 d.n1 k1 d.n2 k2 d.n3 k3 d.l d.p d.t) (stC A0 A1 A2 A3 s.pods.length c0 s.mnts.length c1 s.devs.length c2 s.lks.length c3 s.ph s.co s.ck s.bo s.ba s.lb s.gd s.pr)) (fun _ _ j _ => L.length - (intOf j).toNat)
        case atStart => exact ⟨0, Nat.zero_le _, rfl, by simp, Lib.hid (by simpa using O2), Lib.hid OL, T2⟩
        case round =>
          clear O2 OL T2 HT HO
          obtain ⟨k, hk, rfl, rfl, HO, HOL, T⟩ := hrel
          have hC := T.A.C
          have hD := T.O.C
          by_cases hlt : k < L.length
          · obtain ⟨i, hLi, hi⟩ := HPL.out k hlt
            have hlp : i < s.pods.length := by rw [HNP.out]; exact hi
            have HLI := Lib.hid hLi
            obtain ⟨bl, ol, rfl, hbl, q0⟩ := list_at HOL.out hLi
            clear hLi
            obtain ⟨b', off', rfl, hb', hc⟩ := (R0.out.below T.A.K (Nat.le_refl _)).cell hlp
            have p0 := (hc 0 (by decide)).trans (podCs_at s.pods (i := i) hlp).1
            have p1 := (hc 1 (by decide)).trans (podCs_at s.pods (i := i) hlp).2
            rw [Nat.add_zero] at p0
            clear hc
            have hpo := (podAt_ok OK.out hi).2
            have HEL : Hid (elemG d s c (i : Int) = if aliveB (podA s.pods i).1 then (if podStep (d.x0 (i * 4 + 3)) (d.x0 (i * 4 + 2)) (podA s.pods i) c = (podA s.pods i).1 then none else some ⟨2, i, podStep (d.x0 (i * 4 + 3)) (d.x0 (i * 4 + 2)) (podA s.pods i) c⟩) else none) := Lib.hid (by unfold elemG; rw [Int.toNat_natCast]; rfl)
            have HA1 : Hid ((L.take (k + 1)).any (fun i => aliveB (podAt s i.toNat).1) = ((L.take k).any (fun i => aliveB (podAt s i.toNat).1) || aliveB (podA s.pods i).1)) := Lib.hid (by
              rw [take_at HLI.out, List.any_append]; simp [podAt, podA])
            have HF1 : Hid ((L.take (k + 1)).filterMap (elemG d s c) = (L.take k).filterMap (elemG d s c) ++ (match elemG d s c (i : Int) with | some r => [r] | none => [])) := Lib.hid (by
              rw [take_at HLI.out, List.filterMap_append]
              cases he : elemG d s c (i : Int) <;> simp [he])
            have HLE : Hid (((L.take k).filterMap (elemG d s c)).length ≤ 12) := Lib.hid (by
              have := List.length_filterMap_le (elemG d s c) (L.take k)
              have h2 : (L.take k).length ≤ L.length := by rw [List.length_take]; omega
              have := HPN.out
              omega)
            generalize elemG d s c (i : Int) = el at HEL HF1
            rw [show podAt s i = podA s.pods i from rfl] at hpo
            generalize podA s.pods i = q at p0 p1 HEL HA1 hpo
            obtain ⟨x, y⟩ := q
            dsimp only at p0 p1 HEL HA1 hpo
            have hz := T.A.z
            have hz' := T.O.z
            have hbw : b' < wr.heap.size := Nat.lt_of_lt_of_le hb' T.A.K.size
            go_wp2_with fail
            go_cut [11] from 43 to 50 (fun s11 wx => ∃ g, s11 = .pointer (some ⟨g, 0, none⟩) ∧ wx.heap[g]? = some (.cells #[.int .i64 x, .int .i64 y] 140) ∧ Below wr.heap.size wr wx)
            case first =>
              go_region
              all_goals (go_wp2_with fail; go_meet)
              all_goals
                apply Exists.intro
                refine ⟨rfl, ?h3, ?hb⟩
                case h3 => repeat (first | exact alloc_here (by simp) | refine (alloc_there (by simp <;> omega)).trans ?_)
                case hb => repeat (first | exact Below.refl _ _ | refine Below.drew ?_ | refine Below.alloc ?_ (by simp <;> omega) _)
            case rest =>
              obtain ⟨g, rfl, hg, Kx⟩ := hcut
              have T2 := T.step Kx
              have HO2 := Lib.hid (HO.out.below Kx)
              have HOL2 := Lib.hid (ownsRow_below HOL.out Kx)
              have XB := two_row hg
              have hgz : g < wc.heap.size := (Array.getElem?_eq_some_iff.1 hg).1
              have r0 := (Kx.cell (p := ⟨bl, ol + k, none⟩) hbl).trans q0
              have hblc := Nat.lt_of_lt_of_le hbl Kx.size
              clear T HO HOL hC hD hz hz' q0 p0 p1 hbl hbw hb'
              have hC := T2.A.C
              have hD := T2.O.C
              go_wp2_with fail
              refine (alive_any _ _).mono ?_
              rintro e w5 ⟨rfl, rfl⟩
              cases ha : aliveB x
              · have HAL := Lib.hid ha
                clear ha
                go_wp2
                refine ⟨⟨k + 1, by omega, by go_num, by rw [HA1.out, HAL.out, Bool.or_false], Lib.hid (by rw [HF1.out, HEL.out, HAL.out]; simpa using HO2.out), HOL2, T2⟩, by simp [intOf]; omega⟩
              · have HAL := Lib.hid ha
                clear ha
                obtain ⟨bp, op, rfl, hbp, g0, g1, g2, g3⟩ := (S0.out.own T2.A).cell4 hi
                have hck := HCK.out
                go_wp2_with fail
                have Q0 : (∀ o, wc.cell? ⟨w.heap.size, o, none⟩ = (planC (some ⟨bp, op, none⟩) P1 P2 P3 d.n0 k0 d.n1 k1 d.n2 k2 d.n3 k3 d.l d.p d.t)[o]?) ∧ (∀ o, wc.cell? ⟨g, o, none⟩ = #[Value.int .i64 x, .int .i64 y][o]?) ∧ wc.cell? ⟨bl, ol + k, none⟩ = some (.int .i64 i) ∧ wc.cell? ⟨bp, op + i * 4, none⟩ = some (.int .i64 (d.x0 (i * 4))) ∧ wc.cell? ⟨bp, op + i * 4 + 1, none⟩ = some (.int .i64 (d.x0 (i * 4 + 1))) ∧ wc.cell? ⟨bp, op + i * 4 + 2, none⟩ = some (.int .i64 (d.x0 (i * 4 + 2))) ∧ wc.cell? ⟨bp, op + i * 4 + 3, none⟩ = some (.int .i64 (d.x0 (i * 4 + 3))) ∧ Below wc.heap.size wc wc := ⟨T2.A.C, XB, r0, g0, g1, g2, g3, Below.refl _ _⟩
                clear hC hD XB r0 g0 g1 g2 g3
                go_region_held3 (fun w' => (∀ o, w'.cell? ⟨w.heap.size, o, none⟩ = (planC (some ⟨bp, op, none⟩) P1 P2 P3 d.n0 k0 d.n1 k1 d.n2 k2 d.n3 k3 d.l d.p d.t)[o]?) ∧ (∀ o, w'.cell? ⟨g, o, none⟩ = #[Value.int .i64 x, .int .i64 y][o]?) ∧ w'.cell? ⟨bl, ol + k, none⟩ = some (.int .i64 i) ∧ w'.cell? ⟨bp, op + i * 4, none⟩ = some (.int .i64 (d.x0 (i * 4))) ∧ w'.cell? ⟨bp, op + i * 4 + 1, none⟩ = some (.int .i64 (d.x0 (i * 4 + 1))) ∧ w'.cell? ⟨bp, op + i * 4 + 2, none⟩ = some (.int .i64 (d.x0 (i * 4 + 2))) ∧ w'.cell? ⟨bp, op + i * 4 + 3, none⟩ = some (.int .i64 (d.x0 (i * 4 + 3))) ∧ Below wc.heap.size wc w')
                  (first | exact Q2 | exact Q0 | exact ⟨Q0.1, Q0.2.1, Q0.2.2.1, Q0.2.2.2.1, Q0.2.2.2.2.1, Q0.2.2.2.2.2.1, Q0.2.2.2.2.2.2.1, Q0.2.2.2.2.2.2.2.drew⟩)
                  (first
                    | (go_at_call 223
                       have K0 : Below wc.heap.size wc wc.drew := (Below.refl _ _).drew
                       refine (podStep_any _ _ _ _ _ _ _ _ hpo hck).mono ?_
                       rintro e w6 ⟨rfl, hb6⟩
                       have K1 : Below wc.heap.size wc w6 := K0.trans hb6
                       have Q2 := And.intro (T2.step K1).A.C (And.intro (fun o => (K1.cell (p := ⟨g, o, none⟩) hgz).trans (Q0.2.1 o)) (And.intro ((K1.cell (p := ⟨bl, ol + k, none⟩) hblc).trans Q0.2.2.1) (And.intro ((K1.cell (p := ⟨bp, op + i * 4, none⟩) hbp).trans Q0.2.2.2.1) (And.intro ((K1.cell (p := ⟨bp, op + i * 4 + 1, none⟩) hbp).trans Q0.2.2.2.2.1) (And.intro ((K1.cell (p := ⟨bp, op + i * 4 + 2, none⟩) hbp).trans Q0.2.2.2.2.2.1) (And.intro ((K1.cell (p := ⟨bp, op + i * 4 + 3, none⟩) hbp).trans Q0.2.2.2.2.2.2.1) K1))))))))
                have T3 := T2.step K1
                have HO3 := Lib.hid (HO2.out.below K1)
                have HOL3 := Lib.hid (ownsRow_below HOL2.out K1)
                have XB := Q2.2.1
                have r0 := Q2.2.2.1
                clear Q0 Q2 K0 K1 hb6 T2 HO2 HOL2
                rename_i hHeld
                clear hHeld
                have hC := T3.A.C
                have hD := T3.O.C
                generalize podStep (d.x0 (i * 4 + 3)) (d.x0 (i * 4 + 2)) (x, y) c = st at HEL ⊢
                cases hst : (st != x)
                · have HST : Hid (st = x) := Lib.hid (by simpa using hst)
                  go_wp2
                  refine ⟨⟨k + 1, by omega, by go_num, by rw [HA1.out, HAL.out, Bool.or_true], Lib.hid (by rw [HF1.out, HEL.out, HAL.out, if_pos rfl, if_pos HST.out]; simpa using HO3.out), HOL3, T3⟩, by simp [intOf]; omega⟩
                · have HST : Hid (¬ st = x) := Lib.hid (by simpa using hst)
                  go_wp2_with (at_builtin; refine append_rec 2 i st _ _ rfl rfl rfl HO3.out rfl rfl (by have := HLE.out; omega) T3.O.z ?_; rintro v' w' O' hb' hk')
                  refine ⟨⟨k + 1, by omega, by go_num, by rw [HA1.out, HAL.out, Bool.or_true], Lib.hid (by rw [HF1.out, HEL.out, HAL.out, if_pos rfl, if_neg HST.out]; exact O'), Lib.hid (ownsRow_keeps HOL3.out hk' fun r hr e => absurd (row_type HOL3.out HO3.out hr e) (by decide)), T3.low hb' (Nat.le_refl _)⟩, by simp [intOf]; omega⟩
          · obtain rfl : k = L.length := by omega
            rw [List.take_length] at HO ⊢
            cases hv : L.any (fun i => aliveB (podAt s i.toNat).1)
            · have HV := Lib.hid (HDD.out hv)
              clear hv
              go_wp2_with fail
              refine (specNext_any _ d _ _ ((HP.out.below T.A.K (Nat.le_refl _)).more T.A.K.size) (by have := HSZ.out; omega)).mono ?_
              rintro e w5 ⟨rfl, hb⟩
              have T5 := T.step hb
              have HO5 := Lib.hid (HO.out.below hb)
              have HLE : Hid ((L.filterMap (elemG d s c)).length ≤ 12) := Lib.hid (by
                have := List.length_filterMap_le (elemG d s c) L
                have := HPN.out
                omega)
              clear hb hC hD T
              have HB : Hid (nextB d s.ba = if nextL d s.ba < 0 then 6 else nextL d s.ba) := Lib.hid rfl
              generalize nextL d s.ba = nb at HB ⊢
              by_cases hnb : nb < 0
              · have HN := Lib.hid hnb
                go_wp2_with (at_builtin; refine append_rec 9 6 0 _ _ rfl rfl rfl HO5.out rfl rfl (by have := HLE.out; omega) T5.O.z ?_; rintro v' w' O' hb' -)
                all_goals (go_ret; exact ⟨_, rfl, by rw [← HV.out, HB.out, if_pos (by have := HN.out; omega)]; exact O'.base (by omega), (T5.low hb' (Nat.le_refl _)).A.K⟩)
              · have HN := Lib.hid hnb
                go_wp2_with (at_builtin; refine append_rec 9 nb 0 _ _ rfl rfl rfl HO5.out rfl rfl (by have := HLE.out; omega) T5.O.z ?_; rintro v' w' O' hb' -)
                all_goals (go_ret; exact ⟨_, rfl, by rw [← HV.out, HB.out, if_neg (by have := HN.out; omega)]; exact O'.base (by omega), (T5.low hb' (Nat.le_refl _)).A.K⟩)
            · have HV := Lib.hid (HLV.out hv)
              clear hv
              go_wp2
              all_goals (go_ret; exact ⟨_, rfl, by rw [← HV.out]; exact HO.out.base (by omega), T.A.K⟩)
end Go.Proofs.YtdphpjnecjofeaaGreatDoor
