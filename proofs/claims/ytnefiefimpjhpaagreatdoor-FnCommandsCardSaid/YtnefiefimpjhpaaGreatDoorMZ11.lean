/-
  What the program's changes do to a state in a box: phases, pods, mounts, devices.
-/
import Derived.Test.YtnefiefimpjhpaaGreatDoorMZ10
import Derived.Test.YtnefiefimpjhpaaGreatDoorMZ5
import Derived.Test.YtnefiefimpjhpaaGreatDoorMZ6
import Derived.Test.YtnefiefimpjhpaaGreatDoorMZ2
import Derived.Deep.RegionHeld3
import Derived.Test.YtnefiefimpjhpaaGreatDoorMZ4
import Derived.Test.YtnefiefimpjhpaaGreatDoorMZ9
import Derived.BigQuiet
import Derived.Test.YtnefiefimpjhpaaGreatDoorMZ7
import Derived.Test.YtnefiefimpjhpaaGreatDoorMZxUt
/- Wg -/
set_option linter.unusedVariables false
namespace Go.Proofs.YtnefiefimpjhpaaGreatDoor
open Go.RowKit

theorem contains_at {l : List Int} {j : Nat} {a : Int} (hj : j < l.length) (h : lkA l j = a) : l.contains a = true := by
  subst h
  simp [lkA, List.getD, List.getElem?_eq_getElem hj]
theorem contains_no {l : List Int} {a : Int} (h : ∀ j, j < l.length → lkA l j ≠ a) : l.contains a = false := by
  rw [Bool.eq_false_iff]
  intro hc
  rw [List.contains_iff_mem, List.mem_iff_getElem] at hc
  obtain ⟨j, hj, e⟩ := hc
  exact h j hj (by simp [lkA, List.getD, List.getElem?_eq_getElem hj, e])
set_option maxRecDepth 4000 in
set_option maxHeartbeats 4000000 in
theorem mayEvict_any (pv sv : Value) (d : PlanD) (s : StD) (a : Int) (w : World) (hp : IsPlan w w.heap.size pv d) (hs : IsSt w w.heap.size sv s) :
    Calls Tryz.prog 44 #[pv, sv, .int .i64 a] w fun e w' => e = .returned (.bool (stOkB d s && mayEvictB d s a)) ∧ Below w.heap.size w w' := by
  have HP := Lib.hid hp
  have HS := Lib.hid hs
  obtain ⟨⟨P0, P1, P2, P3, k0, k1, k2, k3, rfl, s0, s1, s2, s3⟩, b0, b1, b2, b3⟩ := hp
  obtain ⟨⟨A0, A1, A2, A3, c0, c1, c2, c3, rfl, t0, t1, t2, t3⟩, f0, f1, f2, f3⟩ := hs
  have S0 := Lib.hid s0
  have S1 := Lib.hid s1
  have S2 := Lib.hid s2
  have S3 := Lib.hid s3
  have R0 := Lib.hid t0
  have R1 := Lib.hid t1
  have R2 := Lib.hid t2
  have R3 := Lib.hid t3
  unfold maxLen at b0 b1 b2 b3 f0 f1 f2 f3
  clear s0 s1 s2 s3 t0 t1 t2 t3
  have T0 := Two.start w (planC P0 P1 P2 P3 d.n0 k0 d.n1 k1 d.n2 k2 d.n3 k3 d.l d.p d.t) (stC A0 A1 A2 A3 s.pods.length c0 s.mnts.length c1 s.devs.length c2 s.lks.length c3 s.ph s.co s.ck s.bo s.ba s.lb s.gd s.pr) 29 34
  obtain ⟨ans, hans⟩ : ∃ ans, (stOkB d s && mayEvictB d s a) = ans := ⟨_, rfl⟩
  rw [hans]
  have HANS := Lib.hid hans
  clear hans
  go_enter Tryz.func44, Tryz.ntmps44
  go_wp2_with fail
  refine (specStateOk_any _ _ d s _ ((HP.out.below T0.A.K (Nat.le_refl _)).more T0.A.K.size) ((HS.out.below T0.A.K (Nat.le_refl _)).more T0.A.K.size)).mono ?_
  rintro e w1 ⟨rfl, hb⟩
  have T1 := T0.step hb
  have hC := T1.A.C
  have hD := T1.O.C
  clear hb T0
  cases hok : stOkB d s
  · have OKB := Lib.hid hok
    clear hok
    go_wp2
    all_goals (go_ret; exact ⟨ret_bool (by rw [← HANS.out, OKB.out]; rfl), T1.A.K⟩)
  · have OK := Lib.hid (stOkB_iff.1 hok)
    have OKB := Lib.hid hok
    clear hok
    cases hph : (s.ph != 2)
    case true =>
      have HPH : Hid (¬ s.ph = 2) := Lib.hid (by simpa using hph)
      go_wp2
      all_goals (go_ret; exact ⟨ret_bool (by rw [← HANS.out, OKB.out]; simp [mayEvictB, HPH.out]), T1.A.K⟩)
    case false =>
      have HPH : Hid (s.ph = 2) := Lib.hid (by simpa using hph)
      go_wp2_with fail
      refine (in_any _ _ _ _).mono ?_
      rintro e w2 ⟨rfl, rfl⟩
      cases hin : inB a 0 (d.n0 - 1)
      · have HIN := Lib.hid hin
        clear hin
        go_wp2
        all_goals (go_ret; exact ⟨ret_bool (by rw [← HANS.out, OKB.out]; simp [mayEvictB, HIN.out]), T1.A.K⟩)
      · have HIN := Lib.hid hin
        obtain ⟨i, rfl, hi⟩ := index_nat (a := a) (n := d.n0) (by rw [hin]; decide)
        clear hin
        have hlp : i < s.pods.length := by rw [OK.out.np]; exact hi
        obtain ⟨b', off', rfl, hb', hc⟩ := (R0.out.below T1.A.K (Nat.le_refl _)).cell hlp
        have p0 := (hc 0 (by decide)).trans (podCs_at s.pods (i := i) hlp).1
        rw [Nat.add_zero] at p0
        clear hc
        obtain ⟨m, hm, hml⟩ := pod_group OK.out.plan hi
        have HANS2 : Hid (ans = (decide ((podA s.pods i).1 = 0) && decide (d.x1 m < healthyN d s m))) := Lib.hid (by
          rw [← HANS.out, OKB.out, mayEvictB, HIN.out, HPH.out, Int.toNat_natCast, hm, Int.toNat_natCast]
          simp [podAt, podA])
        generalize (podA s.pods i).1 = x at p0 HANS2
        by_cases hx : x = 0
        · subst hx
          obtain ⟨b, off, rfl, hb, q0, -, -, -⟩ := (S0.out.own T1.A).cell4 hi
          obtain ⟨b1_, off1, rfl, hb1, r0⟩ := (S1.out.below T1.A.K (Nat.le_refl _)).cell1 hml
          rw [hm] at q0
          have HG : Hid ((if stOkB d s && inB (m : Int) 0 (d.n1 - 1) then healthyN d s m else -1) = healthyN d s m) := Lib.hid (by
            rw [OKB.out, show inB (m : Int) 0 (d.n1 - 1) = true from by rw [inB_true]; omega]; rfl)
          clear hm HPH
          go_wp2_with fail
          have hlt1 : b1_ < w1.heap.size := Nat.lt_of_lt_of_le hb1 T1.A.K.size
          have Q0 : (∀ o, w1.cell? ⟨w.heap.size, o, none⟩ = (planC (some ⟨b, off, none⟩) (some ⟨b1_, off1, none⟩) P2 P3 d.n0 k0 d.n1 k1 d.n2 k2 d.n3 k3 d.l d.p d.t)[o]?) ∧ (∀ o, w1.cell? ⟨w.heap.size + 1, o, none⟩ = (stC (some ⟨b', off', none⟩) A1 A2 A3 s.pods.length c0 s.mnts.length c1 s.devs.length c2 s.lks.length c3 s.ph s.co s.ck s.bo s.ba s.lb s.gd s.pr)[o]?) ∧ w1.cell? ⟨b1_, off1 + m, none⟩ = some (.int .i64 (d.x1 m)) ∧ Below w1.heap.size w1 w1 := ⟨T1.A.C, T1.O.C, r0, Below.refl _ _⟩
          go_region_held3 (fun w' => (∀ o, w'.cell? ⟨w.heap.size, o, none⟩ = (planC (some ⟨b, off, none⟩) (some ⟨b1_, off1, none⟩) P2 P3 d.n0 k0 d.n1 k1 d.n2 k2 d.n3 k3 d.l d.p d.t)[o]?) ∧ (∀ o, w'.cell? ⟨w.heap.size + 1, o, none⟩ = (stC (some ⟨b', off', none⟩) A1 A2 A3 s.pods.length c0 s.mnts.length c1 s.devs.length c2 s.lks.length c3 s.ph s.co s.ck s.bo s.ba s.lb s.gd s.pr)[o]?) ∧ w'.cell? ⟨b1_, off1 + m, none⟩ = some (.int .i64 (d.x1 m)) ∧ Below w1.heap.size w1 w')
            (first | exact Q2 | exact Q0 | exact ⟨Q0.1, Q0.2.1, Q0.2.2.1, Q0.2.2.2.drew⟩)
            (first
              | (go_at_call 103
                 have K0 : Below w1.heap.size w1 w1.drew := (Below.refl _ _).drew
                 refine (healthyIn_any _ _ d s _ _ ((HP.out.below (T1.step K0).A.K (Nat.le_refl _)).more (T1.step K0).A.K.size) ((HS.out.below (T1.step K0).A.K (Nat.le_refl _)).more (T1.step K0).A.K.size)).mono ?_
                 rw [HG.out]
                 rintro e w3 ⟨rfl, hb3⟩
                 have K1 : Below w1.heap.size w1 w3 := K0.trans hb3
                 have Q2 := And.intro (T1.step K1).A.C (And.intro (T1.step K1).O.C (And.intro ((K1.cell (p := ⟨b1_, off1 + m, none⟩) hlt1).trans r0) K1))))
          have T3 := T1.step K1
          go_wp2
          all_goals (go_ret; exact ⟨ret_bool (by rw [HANS2.out]; simp), T3.A.K⟩)
        · go_wp2
          all_goals (go_ret; exact ⟨ret_bool (by rw [HANS2.out]; simp [hx]), T1.A.K⟩)

set_option maxHeartbeats 1000000 in
theorem l10Phase_any (sv : Value) (s : StD) (f t : Int) (w : World) (hs : IsSt w w.heap.size sv s) :
    Calls Tryz.prog 19 #[sv, .int .i64 f, .int .i64 t] w (RecsA w (phaseD s f t)) := by
  obtain ⟨⟨A0, A1, A2, A3, c0, c1, c2, c3, rfl, -, -, -, -⟩, -, -, -, -⟩ := hs
  obtain ⟨ans, hans⟩ : ∃ ans, phaseD s f t = ans := ⟨_, rfl⟩
  rw [hans]
  have HANS := Lib.hid hans
  clear hans
  have X := Own.box w (stC A0 A1 A2 A3 s.pods.length c0 s.mnts.length c1 s.devs.length c2 s.lks.length c3 s.ph s.co s.ck s.bo s.ba s.lb s.gd s.pr) 34
  cases hph : (s.ph != f)
  · have HPH : Hid (s.ph = f) := Lib.hid (by simpa using hph)
    go_enter Tryz.func19, Tryz.ntmps19
    go_wp2_with fail
    refine (l10One_any 1 t 0 _).mono ?_
    rintro e w9 hR
    obtain ⟨v9, rfl, O9, K9⟩ := hR.back X.K
    go_wp2
    all_goals (go_ret2; rw [← HANS.out, phaseD, if_pos HPH.out]; exact ⟨v9, rfl, O9, K9⟩)
  · have HPH : Hid (¬ s.ph = f) := Lib.hid (by simpa using hph)
    go_enter Tryz.func19, Tryz.ntmps19
    go_wp2_with fail
    refine (l10No_any 3 _).mono ?_
    rintro e w9 hR
    obtain ⟨v9, rfl, O9, K9⟩ := hR.back X.K
    go_wp2
    all_goals (go_ret2; rw [← HANS.out, phaseD, if_neg HPH.out]; exact ⟨v9, rfl, O9, K9⟩)

set_option maxHeartbeats 1000000 in
theorem l10Holds_any (sv : Value) (s : StD) (a : Int) (w : World) (hs : IsSt w w.heap.size sv s) :
    Calls Tryz.prog 47 #[sv, .int .i64 a] w fun e w' => e = .returned (.bool (s.lks.contains a)) ∧ Below w.heap.size w w' := by
  obtain ⟨⟨A0, A1, A2, A3, c0, c1, c2, c3, rfl, -, -, -, t3⟩, -, -, -, f3⟩ := hs
  have R3 := Lib.hid t3
  unfold maxLen at f3
  clear t3
  obtain ⟨ans, hans⟩ : ∃ ans, s.lks.contains a = ans := ⟨_, rfl⟩
  rw [hans]
  have HANS := Lib.hid hans
  clear hans
  have X0 := Own.box w (stC A0 A1 A2 A3 s.pods.length c0 s.mnts.length c1 s.devs.length c2 s.lks.length c3 s.ph s.co s.ck s.bo s.ba s.lb s.gd s.pr) 34
  go_enter Tryz.func47, Tryz.ntmps47
  go_wp2_with fail
  go_loopw [5] (fun j wr => ∃ k : Nat, k ≤ s.lks.length ∧ j = .int .i64 k ∧ (∀ j, j < k → lkA s.lks j ≠ a) ∧ Own w wr w.heap.size (stC A0 A1 A2 A3 s.pods.length c0 s.mnts.length c1 s.devs.length c2 s.lks.length c3 s.ph s.co s.ck s.bo s.ba s.lb s.gd s.pr)) (fun j _ => s.lks.length - (intOf j).toNat)
  case atStart => exact ⟨0, Nat.zero_le _, rfl, fun j hj => absurd hj (by omega), X0⟩
  case round =>
    clear X0
    obtain ⟨k, hk, rfl, hall, X⟩ := hrel
    have HALL := Lib.hid hall
    clear hall
    have hC := X.C
    by_cases hlt : k < s.lks.length
    · obtain ⟨b', off', rfl, hb', hc⟩ := (R3.out.below X.K (Nat.le_refl _)).cell hlt
      have p0 := (hc 0 (by decide)).trans (lkCs_at s.lks (i := k * 1 + 0) (by omega))
      rw [Nat.add_zero, Nat.mul_one] at p0
      clear hc
      have HYES : Hid (lkA s.lks k = a → ans = true) := Lib.hid fun h => by rw [← HANS.out]; exact contains_at hlt h
      have HNO : Hid (lkA s.lks k ≠ a → ∀ j, j < k + 1 → lkA s.lks j ≠ a) := Lib.hid fun h j hj => by
        by_cases e : j = k
        · rw [e]; exact h
        · exact HALL.out j (by omega)
      generalize lkA s.lks k = x at p0 HYES HNO
      cases hx : (x == a)
      · have HX : Hid (x ≠ a) := Lib.hid (by simpa using hx)
        go_wp2
        refine ⟨⟨k + 1, by omega, by go_num, HNO.out HX.out, X⟩, by simp [intOf]; omega⟩
      · have HX : Hid (x = a) := Lib.hid (by simpa using hx)
        go_wp2
        all_goals (go_ret; exact ⟨ret_bool (HYES.out HX.out).symm, X.K⟩)
    · obtain rfl : k = s.lks.length := by omega
      go_wp2
      all_goals (go_ret; exact ⟨ret_bool (by rw [← HANS.out, contains_no HALL.out]), X.K⟩)

end Go.Proofs.YtnefiefimpjhpaaGreatDoor
/- Zd -/
set_option linter.unusedVariables false
namespace Go.Proofs.YtnefiefimpjhpaaGreatDoor
open Go.RowKit

/-- The cells of an agent. -/
abbrev agC (p0 p1 p2 p3 : Value) (l p t ph : Int) (co : Bool) (ck bo ba lb : Int) (s0 s1 s2 s3 : Value) (gd pr : Int) (b : Value) : Array Value :=
  #[p0, p1, p2, p3, .int .i64 l, .int .i64 p, .int .i64 t, .int .i64 ph, .bool co, .int .i64 ck, .int .i64 bo, .int .i64 ba, .int .i64 lb, s0, s1, s2, s3, .int .i64 gd, .int .i64 pr, b]
/-- An agent that can be read below block B. -/
structure IsAg (w : World) (B : Nat) (v : Value) (d : PlanD) (s : StD) (st : List Nat) : Prop where
  it : ∃ p0 p1 p2 p3 s0 s1 s2 s3 b, v = .agg (agC p0 p1 p2 p3 d.l d.p d.t s.ph s.co s.ck s.bo s.ba s.lb s0 s1 s2 s3 s.gd s.pr b) ∧ IsPlR w B (.agg #[p0, p1, p2, p3, .int .i64 d.l, .int .i64 d.p, .int .i64 d.t]) d ∧ IsStR w B (.agg #[.int .i64 s.ph, .bool s.co, .int .i64 s.ck, .int .i64 s.bo, .int .i64 s.ba, .int .i64 s.lb, s0, s1, s2, s3, .int .i64 s.gd, .int .i64 s.pr]) s ∧ Bt w B b st ∧ Real b
theorem IsAg.below {w w' : World} {B B' : Nat} {v : Value} {d : PlanD} {s : StD} {st : List Nat} (h : IsAg w B v d s st) (hb : Below B' w w') (hB : B ≤ B') : IsAg w' B v d s st := by
  obtain ⟨p0, p1, p2, p3, s0, s1, s2, s3, b, hv, h0, h1, h2, h3⟩ := h.it
  exact ⟨p0, p1, p2, p3, s0, s1, s2, s3, b, hv, h0.below hb hB, h1.below hb hB, h2.below hb hB, h3⟩
theorem IsAg.more {w : World} {B B' : Nat} {v : Value} {d : PlanD} {s : StD} {st : List Nat} (h : IsAg w B v d s st) (hB : B ≤ B') : IsAg w B' v d s st := by
  obtain ⟨p0, p1, p2, p3, s0, s1, s2, s3, b, hv, h0, h1, h2, h3⟩ := h.it
  exact ⟨p0, p1, p2, p3, s0, s1, s2, s3, b, hv, h0.more hB, h1.more hB, h2.more hB, h3⟩
theorem IsAg.go {w w' : World} {v : Value} {d : PlanD} {s : StD} {st : List Nat} (h : IsAg w w.heap.size v d s st) (hb : Below w.heap.size w w') : IsAg w' w'.heap.size v d s st := (h.below hb (Nat.le_refl _)).more hb.size
/-- Two rows of one type lie in blocks of their own. -/
def Apart (u v : Value) : Prop := ∀ r, u.ownBlock = some r → v.ownBlock = some r → False
/-- An agent of the call's own. -/
structure OwnAg (w : World) (B : Nat) (v : Value) (d : PlanD) (s : StD) (st : List Nat) : Prop where
  it : ∃ p0 p1 p2 p3 s0 s1 s2 s3 b, v = .agg (agC p0 p1 p2 p3 d.l d.p d.t s.ph s.co s.ck s.bo s.ba s.lb s0 s1 s2 s3 s.gd s.pr b) ∧ Lists w B p0 p1 p2 p3 d ∧ OwnSt w B (.agg #[.int .i64 s.ph, .bool s.co, .int .i64 s.ck, .int .i64 s.bo, .int .i64 s.ba, .int .i64 s.lb, s0, s1, s2, s3, .int .i64 s.gd, .int .i64 s.pr]) s ∧ OB w B b st ∧ Apart p1 s3
theorem OwnAg.below {w w' : World} {B : Nat} {v : Value} {d : PlanD} {s : StD} {st : List Nat} (h : OwnAg w B v d s st) (hb : Below w.heap.size w w') : OwnAg w' B v d s st := by
  obtain ⟨p0, p1, p2, p3, s0, s1, s2, s3, b, hv, h0, h1, h2, h4⟩ := h.it
  exact ⟨p0, p1, p2, p3, s0, s1, s2, s3, b, hv, h0.below hb, h1.below hb, h2.below hb, h4⟩
theorem OwnAg.base {w : World} {B B' : Nat} {v : Value} {d : PlanD} {s : StD} {st : List Nat} (h : OwnAg w B v d s st) (hB : B' ≤ B) : OwnAg w B' v d s st := by
  obtain ⟨p0, p1, p2, p3, s0, s1, s2, s3, b, hv, h0, h1, h2, h4⟩ := h.it
  exact ⟨p0, p1, p2, p3, s0, s1, s2, s3, b, hv, h0.base hB, h1.base hB, h2.base hB, h4⟩
theorem OwnAg.is {w : World} {B : Nat} {v : Value} {d : PlanD} {s : StD} {st : List Nat} (h : OwnAg w B v d s st) (hd : PlFits d) (hs : StFits s 1048576) : IsAg w w.heap.size v d s st := by
  obtain ⟨p0, p1, p2, p3, s0, s1, s2, s3, b, hv, h0, h1, h2, h4⟩ := h.it
  exact ⟨p0, p1, p2, p3, s0, s1, s2, s3, b, hv, h0.plR hd, h1.isR hs, h2.bt, h2.real⟩
theorem row_grown {w w' : World} {B e k n B' e' k' n' : Nat} {v v' : Value} {xs xs' : List Value} (h : w.ownsRow B e k v n xs) (h' : w.ownsRow B' e' k' v' n' xs') (hne : e' ≠ e) (hg : w.grownBy w' v'.ownBlock) : w'.ownsRow B e k v n xs :=
  ownsRow_keeps (S := fun b => v'.ownBlock = some b) h ⟨hg.os, hg.tape, hg.output, hg.size, fun b hb hn => hg.block b hb fun e => hn e.symm⟩ fun r hr hs => hne (row_type h' h hs hr)
theorem Lists.grown {w w' : World} {B B' : Nat} {v0 v1 v2 v3 u : Value} {d : PlanD} {M : List Nat} (h : Lists w B v0 v1 v2 v3 d) (h' : OB w B' u M) (hg : w.grownBy w' u.ownBlock) : Lists w' B v0 v1 v2 v3 d := by
  obtain ⟨⟨a, ha, ha'⟩, ⟨b, hb1, hb2⟩, ⟨c, hc, hc'⟩, ⟨e, he, he'⟩⟩ := h
  exact ⟨⟨a, row_grown ha h'.own (by decide) hg, ha'⟩, ⟨b, row_grown hb1 h'.own (by decide) hg, hb2⟩, ⟨c, row_grown hc h'.own (by decide) hg, hc'⟩, ⟨e, row_grown he h'.own (by decide) hg, he'⟩⟩
theorem OwnSt.grown {w w' : World} {B B' : Nat} {v u : Value} {s : StD} {M : List Nat} (h : OwnSt w B v s) (h' : OB w B' u M) (hg : w.grownBy w' u.ownBlock) : OwnSt w' B v s := by
  obtain ⟨v0, v1, v2, v3, hv, h0, h1, h2, h3⟩ := h.it
  exact ⟨v0, v1, v2, v3, hv, row_grown h0 h'.own (by decide) hg, row_grown h1 h'.own (by decide) hg, row_grown h2 h'.own (by decide) hg, row_grown h3 h'.own (by decide) hg⟩
theorem OI.lt {w : World} {B e k n : Nat} {v : Value} {x : Nat → Int} (h : OI w B e k v n x) {r : Nat} (hr : v.ownBlock = some r) : r < w.heap.size := by
  obtain ⟨cs, hb⟩ := h.block hr
  exact (Array.getElem?_eq_some_iff.1 hb).1
theorem apart_of {w W : World} {B e k n e' k' n' : Nat} {u v : Value} {x : Nat → Int} {xs : List Value} (h : OI w B e k u n x) (h' : W.ownsRow w.heap.size e' k' v n' xs) : Apart u v := fun r h1 h2 => by
  have := h.lt h1
  have := (h'.lt r h2).1
  omega
/-- A world reached from the one at hand. -/
def From {w wc : World} (_ : Below w.heap.size w wc) (W : World) : Prop := Below wc.heap.size wc W
abbrev endOf {w wc : World} (_ : Below w.heap.size w wc) : World := wc
theorem From.same {w wc : World} (K : Below w.heap.size w wc) : From K wc := Below.refl _ _
theorem From.drew {w wc : World} (K : Below w.heap.size w wc) : From K wc.drew := (Below.refl _ _).drew
theorem From.alloc {w wc : World} (K : Below w.heap.size w wc) (ob : Obj) : From K (wc.alloc ob) := (Below.refl _ _).alloc (Nat.le_refl _) ob
theorem From.it {w wc W : World} {K : Below w.heap.size w wc} (h : From K W) : Below wc.heap.size wc W := h
theorem From.all {w wc W : World} {K : Below w.heap.size w wc} (h : From K W) : Below w.heap.size w W := K.trans ((From.it h).mono K.size)
theorem calls_from {P : Program} {f : FuncId} {args : Array Value} {Q : Ending → World → Prop} {W : World} (R : World → Prop) (h : R W) (k : ∀ W', R W' → Calls P f args W' Q) : Calls P f args W Q := k W h
theorem step_from {P : Program} {ops : Array Oper} {o : Oper} {a : Act} {K : Act → World → Prop} {Q : Exit → Act → World → Prop} {W : World} (R : World → Prop) (h : R W)
    (k : ∀ W', R W' → if Region.wanted o (yielded ops a.tmps) = true then Oper.wp P o a W' K Q else K (a.put o.dst undef) W') : if Region.wanted o (yielded ops a.tmps) = true then Oper.wp P o a W K Q else K (a.put o.dst undef) W := k W h
theorem cell_far {W : World} {p : Addr} {v : Value} {g o : Nat} (h : p.block ≠ g) : (W.setCell p v).cell? ⟨g, o, none⟩ = W.cell? ⟨g, o, none⟩ := World.cell?_setCell_other _ _ _ _ (fun e => h (by rw [e]))
section
variable (W : World) (g : Nat) (x0 x1 x2 x3 x4 x5 x6 x7 x8 x9 x10 x11 x12 x13 x14 x15 x16 x17 x18 x19 : Value)
end
/-- At a step of a region that draws: bytes that lie somewhere appended to bytes of the call's own. -/
theorem step_append_bt {w : World} {ops : Array Oper} {o : Oper} {a : Act} {K : Act → World → Prop} {Q : Exit → Act → World → Prop} {E : Prop} (hgd : o.guard = none) (s x : Operand)
    (ho : o.op = .call { callee := .builtin .append, args := #[s, x], argTypes := #[22, 22] }) (base : Nat) (v : Value) (M : List Nat) (hs : a.eval s = v) (hown : OB w base v M)
    (u : Value) (L : List Nat) (hx : a.eval x = u) {B : Nat} (hb : Bt w B u L) (hr : Real u) (hlen : M.length + L.length ≤ 8388608) (hbase : base ≤ w.heap.size)
    (h : ∀ v' w', OB w' base v' (M ++ L) → w.grownBy w' v.ownBlock → K (a.put o.dst v') w') : if Region.wanted o (yielded ops a.tmps) = true then Oper.wp Tryz.prog o a w K Q else E := by
  have hw : Region.wanted o (yielded ops a.tmps) = true := by simp [Region.wanted, hgd]
  rw [if_pos hw]
  obtain ⟨i0, hi, hz0, hz1, hz2⟩ := info_parts info_u8
  rcases hr with rfl | ⟨ad, m, c, rfl⟩
  · have hL : L = [] := List.eq_nil_of_length_eq_zero hb.slice_len.1
    subst hL
    have hrun := run_append_owned_none (P := Tryz.prog) (w := w) base 22 o.type 5 i0 1 Tryz.underlying22 hi v M.length _ hown.own
    unfold Oper.wp
    simp [execOp, ho, resolve, invoke, builtin, hs, hx, hrun, Result.andThen]
    exact h v w (by rw [List.append_nil]; exact hown) ⟨rfl, rfl, rfl, Nat.le_refl _, fun _ _ _ => rfl⟩
  · obtain ⟨hm, hmc⟩ := hb.slice_len
    refine wp_append_own w s x 22 ho base 5 i0 (.int .u8 0) 1 1 Tryz.underlying22 hi hz0 hz1 hz2 rfl (by decide) v M.length _ hs hown.own ad m c (L.map byteV) hx (by rw [List.length_map, hm, Nat.mul_one]) ?_ one_bytes (by unfold maxLen; omega) (by omega) hbase ?_
    · intro j y hy
      have hj : j < L.length := by
        have := (List.getElem?_eq_some_iff.1 hy).1
        simpa using this
      rw [byteV_get hj] at hy
      cases hy
      obtain ⟨b, off, e, hb1, q⟩ := hb.cell hj
      cases e
      have ha : (⟨b, off, none⟩ : Addr).add j = ⟨b, off + j, none⟩ := by unfold Addr.add; split <;> simp_all
      rw [ha]
      exact q
    · intro v' w' h1 h2 _
      exact h v' w' ⟨by rw [List.length_append, List.map_append, hm]; exact h1, hown.small.append hb.small⟩ h2
end Go.Proofs.YtnefiefimpjhpaaGreatDoor
/- Jc -/
set_option linter.unusedVariables false
namespace Go.Proofs.YtnefiefimpjhpaaGreatDoor
open Go.RowKit

theorem index_any (L : List Int) (A : Option Addr) (c : Nat) (a : Int) (w : World) (h : SlV w w.heap.size 1 A L.length (lkCs L)) (hl : L.length ≤ maxLen) :
    Calls Tryz.prog 137 #[.slice A L.length c, .int .i64 a] w fun e w' => (∃ k : Nat, e = .returned (.int .i64 k) ∧ k ≤ 9223372036854775807 ∧ L.contains a = true ∨ e = .returned (.int .i64 (-1)) ∧ L.contains a = false) ∧ w = w' := by
  unfold maxLen at hl
  have H := Lib.hid h
  clear h
  obtain ⟨ans, hans⟩ : ∃ ans, L.contains a = ans := ⟨_, rfl⟩
  rw [hans]
  have HANS := Lib.hid hans
  clear hans
  go_enter Tryz.func137, Tryz.ntmps137
  go_wp2_with fail
  go_loopw [8] (fun j wr => ∃ k : Nat, k ≤ L.length ∧ j = .int .i64 k ∧ (∀ j, j < k → lkA L j ≠ a) ∧ w = wr) (fun j _ => L.length - (intOf j).toNat)
  case atStart => exact ⟨0, Nat.zero_le _, rfl, fun j hj => absurd hj (by omega), rfl⟩
  case round =>
    obtain ⟨k, hk, rfl, hall, rfl⟩ := hrel
    have HALL := Lib.hid hall
    clear hall
    by_cases hlt : k < L.length
    · obtain ⟨b', off', rfl, hb', hc⟩ := H.out.cell hlt
      have p0 := (hc 0 (by decide)).trans (lkCs_at L (i := k * 1 + 0) (by omega))
      rw [Nat.add_zero, Nat.mul_one] at p0
      clear hc
      have HYES : Hid (lkA L k = a → ans = true) := Lib.hid fun h => by rw [← HANS.out]; exact contains_at hlt h
      have HNO : Hid (lkA L k ≠ a → ∀ j, j < k + 1 → lkA L j ≠ a) := Lib.hid fun h j hj => by
        by_cases e : j = k
        · rw [e]; exact h
        · exact HALL.out j (by omega)
      generalize lkA L k = x at p0 HYES HNO
      cases hx : (a == x)
      · have HX : Hid (x ≠ a) := Lib.hid (by intro e; rw [e] at hx; simp at hx)
        go_wp2
        refine ⟨⟨k + 1, by omega, by go_num, HNO.out HX.out, by trivial⟩, by simp [intOf]; omega⟩
      · have HX : Hid (x = a) := Lib.hid (by have h : a = x := by simpa using hx
                                             exact h.symm)
        go_wp2
        all_goals (go_ret; exact ⟨⟨k, .inl ⟨rfl, by omega, HYES.out HX.out⟩⟩, rfl⟩)
    · obtain rfl : k = L.length := by omega
      go_wp2
      all_goals (go_ret; exact ⟨⟨0, .inr ⟨rfl, by rw [← HANS.out, contains_no HALL.out]⟩⟩, rfl⟩)
theorem contains_any (L : List Int) (A : Option Addr) (c : Nat) (a : Int) (w : World) (h : SlV w w.heap.size 1 A L.length (lkCs L)) (hl : L.length ≤ maxLen) :
    Calls Tryz.prog 117 #[.slice A L.length c, .int .i64 a] w fun e w' => e = .returned (.bool (L.contains a)) ∧ w = w' := by
  have H := Lib.hid h
  clear h
  obtain ⟨ans, hans⟩ : ∃ ans, L.contains a = ans := ⟨_, rfl⟩
  rw [hans]
  have HANS := Lib.hid hans
  clear hans
  go_enter Tryz.func117, Tryz.ntmps117
  go_wp2_with fail
  refine (index_any L A c a w H.out hl).mono ?_
  rw [HANS.out]
  rintro e w1 ⟨⟨k, ⟨rfl, hk, hc⟩ | ⟨rfl, hc⟩⟩, rfl⟩
  · have HC := Lib.hid hc
    clear hc
    go_wp2
    all_goals (go_ret; exact ⟨by rw [HC.out]; rfl, rfl⟩)
  · have HC := Lib.hid hc
    clear hc
    go_wp2
    all_goals (go_ret; exact ⟨by rw [HC.out]; rfl, rfl⟩)
end Go.Proofs.YtnefiefimpjhpaaGreatDoor
/- Mb -/
set_option linter.unusedVariables false
namespace Go.Proofs.YtnefiefimpjhpaaGreatDoor
open Go.RowKit Go.Maps

theorem mem_hits {n : Nat} {f : Nat → Int} {b x : Int} : x ∈ hits n f b ↔ (0 ≤ x ∧ x < n) ∧ f x.toNat = b := by
  constructor
  · intro h
    obtain ⟨i, hi, rfl, e⟩ := hits_mem h
    exact ⟨by omega, by simpa using e⟩
  · rintro ⟨⟨h0, h1⟩, e⟩
    have := hits_in (f := f) (n := n) (i := x.toNat) (by omega)
    rw [e] at this
    rwa [Int.toNat_of_nonneg h0] at this
theorem hits_rise (n : Nat) (f : Nat → Int) (b : Int) : (hits n f b).Pairwise (· < ·) := picks_rise n fun i => f i == b
theorem take_one {L : List Int} {k : Nat} (hk : k < L.length) : L.take (k + 1) = L.take k ++ [L.getD k 0] := by
  rw [List.take_add_one]
  simp [List.getD, hk]
theorem not_taken {L : List Int} (hp : L.Pairwise (· < ·)) {k : Nat} (hk : k < L.length) : L.getD k 0 ∉ L.take k := by
  intro hm
  have e := take_one hk
  have h2 : (L.take (k + 1)).Pairwise (· < ·) := hp.sublist (List.take_sublist _ _)
  rw [e, List.pairwise_append] at h2
  have := h2.2.2 _ hm _ (List.mem_singleton.2 rfl)
  omega
theorem SetD.one {D : DataW Unit} {L : List Int} (hp : L.Pairwise (· < ·)) {k : Nat} (hk : k < L.length) (h : SetD D (fun i => decide (i ∈ L.take k)) k) :
    SetD (D.put (.int .i64 (L.getD k 0)) (.lit (.bool true))) (fun i => decide (i ∈ L.take (k + 1))) (k + 1) := by
  refine (h.put (L.getD k 0) (by simpa using not_taken hp hk)).congr (fun i => ?_) rfl
  rw [take_one hk]
  simp [List.mem_append]

def leftQ (d : PlanD) (s : StD) (g : Int) (k i : Nat) : Bool := decide (d.x0 (i * 4) = g) && (decide (k ≤ i) || decide ((podA s.pods i).1 = 0))
def leftF (d : PlanD) (s : StD) (g : Int) (k : Nat) (i : Int) : Bool := (decide (0 ≤ i) && decide (i < d.n0)) && leftQ d s g k i.toNat
def leftN (d : PlanD) (s : StD) (g : Int) (k : Nat) : Nat := (List.range d.n0).countP (leftQ d s g k)
theorem left_start {D : DataW Unit} {d : PlanD} {s : StD} {g : Int} {L : List Int} (hL : L = hits d.n0 (fun i => d.x0 (i * 4)) g) (h : SetD D (fun i => decide (i ∈ L.take L.length)) L.length) : SetD D (leftF d s g 0) (leftN d s g 0) := by
  subst hL
  refine h.congr (fun i => ?_) ?_
  · rw [List.take_length]
    unfold leftF leftQ
    rw [Bool.eq_iff_iff]
    simp [mem_hits]
  · unfold leftN leftQ
    simp [hits, List.countP_eq_length_filter, BEq.beq]
theorem leftQ_next {d : PlanD} {s : StD} {g : Int} {k i : Nat} (h : i = k → (podA s.pods k).1 = 0) : leftQ d s g k i = leftQ d s g (k + 1) i := by
  unfold leftQ
  by_cases e : i = k
  · subst e
    simp [h rfl]
  · have : (k ≤ i) ↔ (k + 1 ≤ i) := by omega
    simp only [this]
theorem left_stay {D : DataW Unit} {d : PlanD} {s : StD} {g : Int} {k : Nat} (h : SetD D (leftF d s g k) (leftN d s g k)) (hr : (podA s.pods k).1 = 0) : SetD D (leftF d s g (k + 1)) (leftN d s g (k + 1)) := by
  have e : leftQ d s g k = leftQ d s g (k + 1) := funext fun i => leftQ_next fun _ => hr
  refine h.congr (fun i => ?_) ?_
  · unfold leftF; rw [e]
  · unfold leftN; rw [e]
theorem left_drop {D : DataW Unit} {d : PlanD} {s : StD} {g : Int} {k : Nat} (h : SetD D (leftF d s g k) (leftN d s g k)) (hk : k < d.n0) (hr : (podA s.pods k).1 ≠ 0) : SetD (D.del (.int .i64 k)) (leftF d s g (k + 1)) (leftN d s g (k + 1)) := by
  have h0 : leftQ d s g (k + 1) k = false := by
    unfold leftQ
    have : ¬ (k + 1 ≤ k) := by omega
    simp [this, hr]
  refine (h.del k).congr (fun i => ?_) ?_
  · unfold leftF
    by_cases e : i = (k : Int)
    · subst e
      rw [Int.toNat_natCast, h0]
      simp
    · by_cases e2 : 0 ≤ i
      · rw [leftQ_next (k := k) (i := i.toNat) (fun e3 => absurd (by omega) e)]
        simp [e]
      · simp [e2]
  · have hF : leftF d s g k k = leftQ d s g k k := by
      unfold leftF
      rw [Int.toNat_natCast]
      have : (k : Int) < d.n0 := by omega
      simp [this]
    rw [hF]
    unfold leftN
    cases hq : leftQ d s g k k
    · have e : ∀ i, leftQ d s g k i = leftQ d s g (k + 1) i := fun i => by
        by_cases e : i = k
        · rw [e, hq, h0]
        · exact leftQ_next fun e2 => absurd e2 e
      rw [show leftQ d s g k = leftQ d s g (k + 1) from funext e]
      simp
    · have := count_flip hq h0 (fun j hj => leftQ_next fun e2 => absurd e2 hj) d.n0
      rw [if_pos hk] at this
      rw [this]
      simp
theorem left_end {D : DataW Unit} {d : PlanD} {s : StD} {g : Int} (h : SetD D (leftF d s g d.n0) (leftN d s g d.n0)) : (∀ i : Nat, i < d.n0 → D.atKey (.int .i64 i) (.lit (.bool false)) = .lit (.bool (hP d s g i))) ∧ (Go.Maps.size D : Int) = healthyN d s g := by
  have e : ∀ i, i < d.n0 → leftQ d s g d.n0 i = hP d s g i := fun i hi => by
    unfold leftQ hP
    have : ¬ (d.n0 ≤ i) := by omega
    simp [this]
  refine ⟨fun i hi => ?_, ?_⟩
  · rw [h.at_]
    unfold leftF
    rw [Int.toNat_natCast, e i hi]
    have : (i : Int) < d.n0 := by omega
    simp [this]
  · rw [h.size_, healthyN_count]
    unfold leftN
    congr 1
    exact List.countP_congr fun i hi => by rw [e i (List.mem_range.1 hi)]
end Go.Proofs.YtnefiefimpjhpaaGreatDoor
/- Mc -/
set_option linter.unusedVariables false
namespace Go.Proofs.YtnefiefimpjhpaaGreatDoor
open Go.RowKit Go.Maps

theorem law64 : Keyed Tryz.prog 2 := int_keyed Tryz.underlying2
theorem zero_bool (w : World) : (zeroValue 4).run Tryz.prog w = .ok (.bool false) w := by kernel_rfl
theorem Keeps.of_grownM {w w' : World} {b : Nat} (h : w.grownBy w' (some b)) : Keeps (fun x => x = b) w w' := by
  obtain ⟨h1, h2, h3, h4, h5⟩ := h
  exact ⟨h1, h2, h3, h4, fun i hi hn => h5 i hi (fun e => hn (by cases e; rfl))⟩
theorem Two.keepB {w w1 w2 : World} {cs os : Array Value} {b : Nat} (h : Two w w1 cs os) (hg : w1.grownBy w2 (some b)) (hb : w.heap.size + 2 ≤ b) : Two w w2 cs os :=
  ⟨h.A.keeps (Keeps.of_grownM hg) (by intro x hx; omega) (by omega), h.O.keeps (Keeps.of_grownM hg) (by intro x hx; omega) (by omega)⟩
/-- What leftIn answers: a map of the call's own. -/
def LeftIn (w : World) (d : PlanD) (s : StD) (g : Int) (e : Ending) (w' : World) : Prop :=
  ∃ B n D, e = .returned (.map (some B)) ∧ w'.ownsMap Tryz.prog 2 (plainElem (H := Unit) Tryz.prog 4) B n D ∧ (∀ i : Nat, i < d.n0 → D.atKey (.int .i64 i) (.lit (.bool false)) = .lit (.bool (hP d s g i))) ∧
    (Go.Maps.size D : Int) = healthyN d s g ∧ Below w.heap.size w w'

set_option maxRecDepth 100000 in
set_option maxHeartbeats 4000000 in
theorem implLeftIn_any (pv sv : Value) (d : PlanD) (s : StD) (g : Int) (w : World) (hp : IsPlan w w.heap.size pv d) (hs : IsSt w w.heap.size sv s) (hok : StOk d s) :
    Calls Tryz.prog 134 #[pv, sv, .int .i64 g] w (LeftIn w d s g) := by
  have HP := Lib.hid hp
  have HS := Lib.hid hs
  have OK := Lib.hid hok
  have HL := Lib.hid (planOk_lock hok.plan)
  obtain ⟨⟨P0, P1, P2, P3, k0, k1, k2, k3, rfl, -, -, -, -⟩, b0, b1, b2, b3⟩ := hp
  obtain ⟨⟨A0, A1, A2, A3, c0, c1, c2, c3, rfl, t0, -, -, -⟩, f0, f1, f2, f3⟩ := hs
  have R0 := Lib.hid t0
  clear t0 hok
  unfold maxLen at b0 b1 b2 b3 f0 f1 f2 f3
  have T0 := Two.start w (planC P0 P1 P2 P3 d.n0 k0 d.n1 k1 d.n2 k2 d.n3 k3 d.l d.p d.t) (stC A0 A1 A2 A3 s.pods.length c0 s.mnts.length c1 s.devs.length c2 s.lks.length c3 s.ph s.co s.ck s.bo s.ba s.lb s.gd s.pr) 29 34
  have hmm := @run_makeMap Tryz.prog
  go_enter Tryz.func134, Tryz.ntmps134
  go_wp2_with fail
  have T1 := T0.step ((Below.refl _ _).alloc (Nat.le_refl _) (.map #[] 0))
  have M1 := World.ownsMap_made ((w.alloc (.cells (planC P0 P1 P2 P3 d.n0 k0 d.n1 k1 d.n2 k2 d.n3 k3 d.l d.p d.t) 29)).alloc (.cells (stC A0 A1 A2 A3 s.pods.length c0 s.mnts.length c1 s.devs.length c2 s.lks.length c3 s.ph s.co s.ck s.bo s.ba s.lb s.gd s.pr) 34)) Tryz.prog 2 (plainElem (H := Unit) Tryz.prog 4)
  simp only [heap_size_alloc_] at M1
  refine (implPodsIn_any _ d g _ ((HP.out.below T1.A.K (Nat.le_refl _)).more T1.A.K.size) (by have := HL.out; omega)).mono ?_
  rintro e w2 ⟨v, rfl, O, hb⟩
  rw [found_yes OK.out.plan] at O
  obtain ⟨L, hL⟩ : ∃ L, hits d.n0 (fun i => d.x0 (i * 4)) g = L := ⟨_, rfl⟩
  rw [hL] at O
  obtain ⟨Q, c, r0, rfl, hQ, hB, hz, R⟩ := open_list O
  have T2 := T1.step hb
  have M2 := M1.kept (row := none) ⟨hb.os, hb.tape, hb.output, hb.size, fun k hk _ => hb.block k hk⟩ (by simp)
  have HQ := Lib.hid hQ
  have HR := Lib.hid R
  have HB := Lib.hid hB
  have HLn : Hid (L.length ≤ 12) := Lib.hid (by rw [← hL]; have := hits_le d.n0 (fun i => d.x0 (i * 4)) g; have := HL.out; omega)
  have HLR : Hid (L.Pairwise (· < ·)) := Lib.hid (by rw [← hL]; exact hits_rise _ _ _)
  have HLW : Hid (∀ k, k < L.length → (Lit.int .i64 (L.getD k 0)).wf = true) := Lib.hid fun k hk => by
    have hm : L.getD k 0 ∈ hits d.n0 (fun i => d.x0 (i * 4)) g := by
      rw [hL]
      simp [List.getD, hk]
    have := mem_hits.1 hm
    have := HL.out
    exact WalkArith.wf_i64 (by omega)
  have HLL := Lib.hid hL.symm
  simp only [heap_size_alloc_] at hB
  have HB := Lib.hid hB
  have HZ := Lib.hid hz
  have HR := Lib.hid R
  clear hL hQ hB hz R O M1 T1 T0 hb
  have hln := HLn.out
  go_wp2_with fail
  go_loopw [17] (fun i wr => ∃ (k : Nat) (D : DataW Unit), k ≤ L.length ∧ i = .int .i64 k ∧ wr.ownsMap Tryz.prog 2 (plainElem Tryz.prog 4) (w.heap.size + 1 + 1) k D ∧ SetD D (fun i => decide (i ∈ L.take k)) k ∧ Keeps (fun x => x = w.heap.size + 1 + 1) w2 wr ∧ Two w wr (planC P0 P1 P2 P3 d.n0 k0 d.n1 k1 d.n2 k2 d.n3 k3 d.l d.p d.t) (stC A0 A1 A2 A3 s.pods.length c0 s.mnts.length c1 s.devs.length c2 s.lks.length c3 s.ph s.co s.ck s.bo s.ba s.lb s.gd s.pr)) (fun i _ => L.length - (intOf i).toNat)
  case atStart => exact ⟨0, _, Nat.zero_le _, rfl, M2, SetD.empty.congr (fun i => by simp) rfl, Keeps.refl _ _, T2⟩
  case round =>
    clear M2 T2
    obtain ⟨k, D, hk, rfl, M, hS, hK, T⟩ := hrel
    have HM := Lib.hid M
    have HSD := Lib.hid hS
    have HK := Lib.hid hK
    clear M hS hK
    have hC := T.A.C
    have hD := T.O.C
    by_cases hlt : k < L.length
    · have e0 := HQ.out (by omega)
      subst e0
      have q0 := ((HR.out.goK HZ.out HK.out (fun hn e => by have := HB.out; omega)) k hlt).1
      have hkey : keyOf Tryz.prog 2 (.int .i64 (L.getD k 0)) = some (.int .i64 (L.getD k 0)) := keyOf_int_mk Tryz.underlying2 (HLW.out k hlt)
      have HKEY := Lib.hid hkey
      have HSN := Lib.hid (HSD.out.one HLR.out hlt)
      clear hkey
      generalize L.getD k 0 = x at *
      go_wp2_with (first
        | (at_mapUpdate; refine wpList_mapUpdate_own _ rfl _ _ _ 180 rfl 2 4 law64 Tryz.underlying180 _ (w.heap.size + 1 + 1) k _ rfl HM.out (by unfold maxLen; omega) _ _ _ rfl rfl HKEY.out _ [] (plainElem_bool Tryz.underlying4 true) ?_; intro w1 hown1 hgrow1))
      refine ⟨⟨k + 1, _, by omega, by go_num, hown1, HSN.out, HK.out.trans (Keeps.of_grownM hgrow1), T.keepB hgrow1 (by omega)⟩, by simp [intOf]; omega⟩
    · obtain rfl : k = L.length := by omega
      have HST := Lib.hid (left_start (s := s) HLL.out HSD.out)
      clear HSD HK HR HQ HZ HB
      obtain ⟨hp, hnp⟩ : s.pods.length ≤ 12 ∧ s.pods.length = d.n0 := by have := OK.out.np; have := HL.out; omega
      have HNP := Lib.hid hnp
      clear hnp
      go_wp2_with fail
      go_loopw [27] (fun i wr => ∃ (k : Nat) (D : DataW Unit), k ≤ s.pods.length ∧ i = .int .i64 k ∧ wr.ownsMap Tryz.prog 2 (plainElem Tryz.prog 4) (w.heap.size + 1 + 1) L.length D ∧ SetD D (leftF d s g k) (leftN d s g k) ∧ Two w wr (planC P0 P1 P2 P3 d.n0 k0 d.n1 k1 d.n2 k2 d.n3 k3 d.l d.p d.t) (stC A0 A1 A2 A3 s.pods.length c0 s.mnts.length c1 s.devs.length c2 s.lks.length c3 s.ph s.co s.ck s.bo s.ba s.lb s.gd s.pr)) (fun i _ => s.pods.length - (intOf i).toNat)
      case atStart => exact ⟨0, _, Nat.zero_le _, rfl, HM.out, HST.out, T⟩
      case round =>
        clear HM HST T hC hD
        obtain ⟨k, D, hk, rfl, M, hS, T⟩ := hrel
        have HM := Lib.hid M
        have HSD := Lib.hid hS
        clear M hS
        have hC := T.A.C
        have hD := T.O.C
        by_cases hlt : k < s.pods.length
        · obtain ⟨b, off, rfl, hb, hc⟩ := (R0.out.below T.A.K (Nat.le_refl _)).cell hlt
          have hp := podCs_at s.pods (i := k) hlt
          have q0 := (hc 0 (by decide)).trans hp.1
          have q1 := (hc 1 (by decide)).trans hp.2
          rw [Nat.add_zero] at q0
          clear hc hp
          have hk0 : k < d.n0 := by have := HNP.out; omega
          have hkey : keyOf Tryz.prog 2 (.int .i64 k) = some (.int .i64 k) := keyOf_int_mk Tryz.underlying2 (WalkArith.wf_i64 (by omega))
          have HKEY := Lib.hid hkey
          clear hkey
          by_cases hx : (podA s.pods k).1 = 0
          · have HN := Lib.hid (left_stay HSD.out hx)
            generalize podA s.pods k = r at q0 q1 hx
            obtain ⟨x, y⟩ := r
            dsimp only at q0 q1 hx
            subst hx
            go_wp2_with fail
            refine ⟨⟨k + 1, D, by omega, by go_num, HM.out.alloc _, HN.out, T.step ((Below.refl _ _).alloc (Nat.le_refl _) _)⟩, by simp [intOf]; omega⟩
          · have HN := Lib.hid (left_drop HSD.out hk0 hx)
            generalize podA s.pods k = r at q0 q1 hx
            obtain ⟨x, y⟩ := r
            dsimp only at q0 q1 hx
            go_wp2_with (first
              | (at_delete; refine wpList_delete_own _ rfl _ _ 180 2 rfl 4 law64 Tryz.underlying180 _ (w.heap.size + 1 + 1) L.length D rfl (HM.out.alloc _) _ _ rfl HKEY.out ?_; intro w1 hown1 hturn1))
            refine ⟨⟨k + 1, _, by omega, by go_num, hown1, HN.out, (T.step ((Below.refl _ _).alloc (Nat.le_refl _) _)).keepB hturn1.grown (by omega)⟩, by simp [intOf]; omega⟩
        · obtain rfl : k = s.pods.length := by omega
          have HE := Lib.hid (left_end (by have := HSD.out; rw [HNP.out] at this; exact this))
          clear HSD
          go_wp2_with fail
          go_ret
          exact ⟨_, _, D, rfl, HM.out, HE.out.1, HE.out.2, T.A.K⟩

set_option maxRecDepth 100000 in
set_option maxHeartbeats 4000000 in
theorem implMayEvict_any (pv sv : Value) (d : PlanD) (s : StD) (a : Int) (w : World) (hp : IsPlan w w.heap.size pv d) (hs : IsSt w w.heap.size sv s) :
    Calls Tryz.prog 114 #[pv, sv, .int .i64 a] w fun e w' => e = .returned (.bool (stOkB d s && mayEvictB d s a)) ∧ Below w.heap.size w w' := by
  have HP := Lib.hid hp
  have HS := Lib.hid hs
  obtain ⟨⟨P0, P1, P2, P3, k0, k1, k2, k3, rfl, s0, s1, -, -⟩, b0, b1, b2, b3⟩ := hp
  obtain ⟨⟨A0, A1, A2, A3, c0, c1, c2, c3, rfl, -, -, -, -⟩, f0, f1, f2, f3⟩ := hs
  have S0 := Lib.hid s0
  have S1 := Lib.hid s1
  unfold maxLen at b0 b1 b2 b3 f0 f1 f2 f3
  clear s0 s1
  have T0 := Two.start w (planC P0 P1 P2 P3 d.n0 k0 d.n1 k1 d.n2 k2 d.n3 k3 d.l d.p d.t) (stC A0 A1 A2 A3 s.pods.length c0 s.mnts.length c1 s.devs.length c2 s.lks.length c3 s.ph s.co s.ck s.bo s.ba s.lb s.gd s.pr) 29 34
  obtain ⟨ans, hans⟩ : ∃ ans, (stOkB d s && mayEvictB d s a) = ans := ⟨_, rfl⟩
  rw [hans]
  have HANS := Lib.hid hans
  clear hans
  go_enter Tryz.func114, Tryz.ntmps114
  go_wp2_with fail
  refine (implStateOk_any _ _ d s _ ((HP.out.below T0.A.K (Nat.le_refl _)).more T0.A.K.size) ((HS.out.below T0.A.K (Nat.le_refl _)).more T0.A.K.size)).mono ?_
  rintro e w1 ⟨rfl, hb⟩
  have T1 := T0.step hb
  have hC := T1.A.C
  have hD := T1.O.C
  clear hb T0
  cases hok : stOkB d s
  · have OKB := Lib.hid hok
    clear hok
    go_wp2
    all_goals (go_ret; exact ⟨ret_bool (by rw [← HANS.out, OKB.out]; rfl), T1.A.K⟩)
  · have OK := Lib.hid (stOkB_iff.1 hok)
    have OKB := Lib.hid hok
    clear hok
    cases hph : (s.ph != 2)
    case true =>
      have HPH : Hid (¬ s.ph = 2) := Lib.hid (by simpa using hph)
      go_wp2
      all_goals (go_ret; exact ⟨ret_bool (by rw [← HANS.out, OKB.out]; simp [mayEvictB, HPH.out]), T1.A.K⟩)
    case false =>
      have HPH : Hid (s.ph = 2) := Lib.hid (by simpa using hph)
      go_wp2_with fail
      refine (isIndex_any _ _ _).mono ?_
      rintro e w2 ⟨rfl, rfl⟩
      cases hin : inB a 0 (d.n0 - 1)
      · have HIN := Lib.hid hin
        clear hin
        go_wp2
        all_goals (go_ret; exact ⟨ret_bool (by rw [← HANS.out, OKB.out]; simp [mayEvictB, HIN.out]), T1.A.K⟩)
      · have HIN := Lib.hid hin
        obtain ⟨i, rfl, hi⟩ := index_nat (a := a) (n := d.n0) (by rw [hin]; decide)
        clear hin hph
        obtain ⟨m, hm, hml⟩ := pod_group OK.out.plan hi
        have HANS2 : Hid (ans = (hP d s m i && decide (d.x1 m < healthyN d s m))) := Lib.hid (by
          rw [← HANS.out, OKB.out, mayEvictB, HIN.out, HPH.out, Int.toNat_natCast, hm, Int.toNat_natCast]
          simp [podAt, podA, hP, hm])
        obtain ⟨b, off, rfl, hb, q0, -, -, -⟩ := (S0.out.own T1.A).cell4 hi
        rw [hm] at q0
        clear hm
        go_wp2_with fail
        refine (implLeftIn_any _ _ d s m _ ((HP.out.below T1.A.K (Nat.le_refl _)).more T1.A.K.size) ((HS.out.below T1.A.K (Nat.le_refl _)).more T1.A.K.size) OK.out).mono ?_
        rintro e w3 ⟨B, n, D, rfl, hown, hat, hsz, hb3⟩
        have T3 := T1.step hb3
        obtain ⟨b1_, off1, rfl, hb1, r0⟩ := (S1.out.below T3.A.K (Nat.le_refl _)).cell1 hml
        have hi12 : i < 1000 := by have := planOk_lock OK.out.plan; omega
        have hkey : keyOf Tryz.prog 2 (.int .i64 i) = some (.int .i64 i) := keyOf_int_mk Tryz.underlying2 (WalkArith.wf_i64 (by omega))
        have hlk : ∀ q, (Instr.lookup 180 (.map (some B)) (.int .i64 i) false).run Tryz.prog (w3.drewN q) = .ok (.bool (hP d s m i)) (w3.drewN q) := fun q => by
          have hown' : (w3.drewN q).ownsMap Tryz.prog 2 (plainElem (H := Unit) Tryz.prog 4) B n D := hown.kept (row := none) ⟨(below_drewN (Below.refl w3.heap.size w3) q).os, (below_drewN (Below.refl w3.heap.size w3) q).tape, (below_drewN (Below.refl w3.heap.size w3) q).output, (below_drewN (Below.refl w3.heap.size w3) q).size, fun k hk _ => (below_drewN (Below.refl w3.heap.size w3) q).block k hk⟩ (by simp)
          obtain ⟨v, ps, hrun, hv⟩ := hown'.lookup law64 Tryz.underlying180 (zero_bool _) (plainElem_bool Tryz.underlying4 false) hkey
          obtain ⟨x, rfl, hx⟩ := plainElem_bool_is Tryz.underlying4 hv
          rw [hat i hi] at hx
          simp only [Prod.mk.injEq, DataW.lit.injEq, Lit.bool.injEq] at hx
          rw [hx.1]
          exact hrun
        have hlen : ∀ q ty, (Builtin.len_ #[180] ty #[.map (some B)]).run Tryz.prog (w3.drewN q) = .ok (.int .i64 (healthyN d s m)) (w3.drewN q) := fun q ty => by
          have hown' : (w3.drewN q).ownsMap Tryz.prog 2 (plainElem (H := Unit) Tryz.prog 4) B n D := hown.kept (row := none) ⟨(below_drewN (Below.refl w3.heap.size w3) q).os, (below_drewN (Below.refl w3.heap.size w3) q).tape, (below_drewN (Below.refl w3.heap.size w3) q).output, (below_drewN (Below.refl w3.heap.size w3) q).size, fun k hk _ => (below_drewN (Below.refl w3.heap.size w3) q).block k hk⟩ (by simp)
          rw [← hsz]
          exact hown'.len Tryz.underlying180 ty
        clear hown hat hsz hkey hb3 T1 hC hD q0 hb
        have hC := T3.A.C
        have hD := T3.O.C
        generalize healthyN d s m = hn at *
        cases hp : hP d s m i
        · rw [hp] at hlk HANS2
          go_wp2_with fail
          go_quiet (fail)
          go_wp2
          all_goals (go_ret; exact ⟨ret_bool (by rw [HANS2.out]; rfl), below_drewN T3.A.K _⟩)
        · rw [hp] at hlk HANS2
          go_wp2_with fail
          go_quiet (fail)
          go_wp2
          all_goals (go_ret; exact ⟨ret_bool (by rw [HANS2.out]; simp), below_drewN T3.A.K _⟩)
end Go.Proofs.YtnefiefimpjhpaaGreatDoor
/- Xe -/
set_option linter.unusedVariables false
namespace Go.Proofs.YtnefiefimpjhpaaGreatDoor
open Go.RowKit

/-- A state in a box, the call's own, its lists as well. -/
def BxS (w : World) (B g : Nat) (v : Value) (s : StD) : Prop := OwnSt w B v s ∧ ∃ cs : Array Value, v = .agg cs ∧ BoxS w B g cs.toList
/-- What a change answers. -/
def Chg (w : World) (B g : Nat) (v : Value) (t : StD) (e : Ending) (w' : World) : Prop := e = .returned (.tuple #[]) ∧ (∃ v', BxS w' B g v' t) ∧ Keeps (fun b => b = g ∨ rowsOf v b) w w'
theorem keep_other {w w' : World} {B B' e e' k k' n n' g : Nat} {v v' : Value} {xs xs' : List Value} (h : w.ownsRow B e k v n xs) (h' : w.ownsRow B' e' k' v' n' xs') (hv' : v'.ownBlock = some g) (hne : e ≠ e') (kp : Keeps (· = g) w w') : w'.ownsRow B e k v n xs :=
  ownsRow_keeps h kp fun r hr e => hne (row_type h h' (e ▸ hr) hv')
theorem keeps_set (w : World) (g o : Nat) (u : Value) : Keeps (· = g) w (w.setCell ⟨g, o, none⟩ u) := (Keeps.refl (· = g) w).set rfl u
theorem box_apart {w : World} {B B' e k n g : Nat} {v : Value} {xs xs' : List Value} (h : w.ownsRow B e k v n xs) (X : BoxS w B' g xs') (hne : e ≠ 34) : v.ownBlock ≠ some g := fun hv => hne (row_type h X hv rfl)

set_option maxRecDepth 4000 in
set_option maxHeartbeats 2000000 in
theorem chg_clock (v : Value) (s : StD) (a b : Int) (w : World) (B g : Nat) (h : BxS w B g v s) :
    Calls Tryz.prog 57 #[.pointer (some ⟨g, 0, none⟩), .int .i64 a, .int .i64 b] w (Chg w B g v (applyR s ⟨8, a, b⟩)) := by
  obtain ⟨O, cs, hv, X⟩ := h
  obtain ⟨v0, v1, v2, v3, rfl, h0, h1, h2, h3⟩ := O.it
  injection hv with hv
  subst hv
  have H0 := Lib.hid h0
  have H1 := Lib.hid h1
  have H2 := Lib.hid h2
  have H3 := Lib.hid h3
  have HX := Lib.hid X
  have hC := X.C
  have hF := X.frozen
  obtain ⟨ph, co, ck, bo, ba, lb, l0, l1, l2, l3, gd, pr⟩ := s
  dsimp only at *
  clear X O h0 h1 h2 h3
  go_enter Tryz.func57, Tryz.ntmps57
  go_wp2
  refine bodyPost_ret (v := .tuple #[]) (by simp [results, Tryz.results57, go_sem]) rfl ?_
  have X0 := HX.out
  have k0 := Keeps.refl (· = g) w
  have X1 := (World.ownsRow.stored X0 2 (.int .i64 a)).1
  have k1 := k0.set (p := ⟨g, 2, none⟩) rfl (.int .i64 a)
  refine ⟨rfl, ⟨_, ⟨v0, v1, v2, v3, rfl, keep_other H0.out HX.out rfl (by decide) k1, keep_other H1.out HX.out rfl (by decide) k1, keep_other H2.out HX.out rfl (by decide) k1, keep_other H3.out HX.out rfl (by decide) k1⟩, _, rfl, X1⟩, k1.mono fun b hb => Or.inl hb⟩

set_option maxRecDepth 4000 in
set_option maxHeartbeats 2000000 in
theorem chg_band (v : Value) (s : StD) (a b : Int) (w : World) (B g : Nat) (h : BxS w B g v s) :
    Calls Tryz.prog 58 #[.pointer (some ⟨g, 0, none⟩), .int .i64 a, .int .i64 b] w (Chg w B g v (applyR s ⟨9, a, b⟩)) := by
  obtain ⟨O, cs, hv, X⟩ := h
  obtain ⟨v0, v1, v2, v3, rfl, h0, h1, h2, h3⟩ := O.it
  injection hv with hv
  subst hv
  have H0 := Lib.hid h0
  have H1 := Lib.hid h1
  have H2 := Lib.hid h2
  have H3 := Lib.hid h3
  have HX := Lib.hid X
  have hC := X.C
  have hF := X.frozen
  obtain ⟨ph, co, ck, bo, ba, lb, l0, l1, l2, l3, gd, pr⟩ := s
  dsimp only at *
  clear X O h0 h1 h2 h3
  go_enter Tryz.func58, Tryz.ntmps58
  go_wp2
  refine bodyPost_ret (v := .tuple #[]) (by simp [results, Tryz.results58, go_sem]) rfl ?_
  have X0 := HX.out
  have k0 := Keeps.refl (· = g) w
  have X1 := (World.ownsRow.stored X0 4 (.int .i64 a)).1
  have k1 := k0.set (p := ⟨g, 4, none⟩) rfl (.int .i64 a)
  refine ⟨rfl, ⟨_, ⟨v0, v1, v2, v3, rfl, keep_other H0.out HX.out rfl (by decide) k1, keep_other H1.out HX.out rfl (by decide) k1, keep_other H2.out HX.out rfl (by decide) k1, keep_other H3.out HX.out rfl (by decide) k1⟩, _, rfl, X1⟩, k1.mono fun b hb => Or.inl hb⟩

set_option maxRecDepth 4000 in
set_option maxHeartbeats 2000000 in
theorem chg_boot (v : Value) (s : StD) (a b : Int) (w : World) (B g : Nat) (h : BxS w B g v s) :
    Calls Tryz.prog 59 #[.pointer (some ⟨g, 0, none⟩), .int .i64 a, .int .i64 b] w (Chg w B g v (applyR s ⟨10, a, b⟩)) := by
  obtain ⟨O, cs, hv, X⟩ := h
  obtain ⟨v0, v1, v2, v3, rfl, h0, h1, h2, h3⟩ := O.it
  injection hv with hv
  subst hv
  have H0 := Lib.hid h0
  have H1 := Lib.hid h1
  have H2 := Lib.hid h2
  have H3 := Lib.hid h3
  have HX := Lib.hid X
  have hC := X.C
  have hF := X.frozen
  obtain ⟨ph, co, ck, bo, ba, lb, l0, l1, l2, l3, gd, pr⟩ := s
  dsimp only at *
  clear X O h0 h1 h2 h3
  go_enter Tryz.func59, Tryz.ntmps59
  go_wp2
  refine bodyPost_ret (v := .tuple #[]) (by simp [results, Tryz.results59, go_sem]) rfl ?_
  have X0 := HX.out
  have k0 := Keeps.refl (· = g) w
  have X1 := (World.ownsRow.stored X0 3 (.int .i64 a)).1
  have k1 := k0.set (p := ⟨g, 3, none⟩) rfl (.int .i64 a)
  refine ⟨rfl, ⟨_, ⟨v0, v1, v2, v3, rfl, keep_other H0.out HX.out rfl (by decide) k1, keep_other H1.out HX.out rfl (by decide) k1, keep_other H2.out HX.out rfl (by decide) k1, keep_other H3.out HX.out rfl (by decide) k1⟩, _, rfl, X1⟩, k1.mono fun b hb => Or.inl hb⟩

set_option maxRecDepth 4000 in
set_option maxHeartbeats 2000000 in
theorem chg_lockBy (v : Value) (s : StD) (a b : Int) (w : World) (B g : Nat) (h : BxS w B g v s) :
    Calls Tryz.prog 60 #[.pointer (some ⟨g, 0, none⟩), .int .i64 a, .int .i64 b] w (Chg w B g v (applyR s ⟨11, a, b⟩)) := by
  obtain ⟨O, cs, hv, X⟩ := h
  obtain ⟨v0, v1, v2, v3, rfl, h0, h1, h2, h3⟩ := O.it
  injection hv with hv
  subst hv
  have H0 := Lib.hid h0
  have H1 := Lib.hid h1
  have H2 := Lib.hid h2
  have H3 := Lib.hid h3
  have HX := Lib.hid X
  have hC := X.C
  have hF := X.frozen
  obtain ⟨ph, co, ck, bo, ba, lb, l0, l1, l2, l3, gd, pr⟩ := s
  dsimp only at *
  clear X O h0 h1 h2 h3
  go_enter Tryz.func60, Tryz.ntmps60
  go_wp2
  refine bodyPost_ret (v := .tuple #[]) (by simp [results, Tryz.results60, go_sem]) rfl ?_
  have X0 := HX.out
  have k0 := Keeps.refl (· = g) w
  have X1 := (World.ownsRow.stored X0 5 (.int .i64 a)).1
  have k1 := k0.set (p := ⟨g, 5, none⟩) rfl (.int .i64 a)
  refine ⟨rfl, ⟨_, ⟨v0, v1, v2, v3, rfl, keep_other H0.out HX.out rfl (by decide) k1, keep_other H1.out HX.out rfl (by decide) k1, keep_other H2.out HX.out rfl (by decide) k1, keep_other H3.out HX.out rfl (by decide) k1⟩, _, rfl, X1⟩, k1.mono fun b hb => Or.inl hb⟩

set_option maxRecDepth 4000 in
set_option maxHeartbeats 2000000 in
theorem chg_probe (v : Value) (s : StD) (a b : Int) (w : World) (B g : Nat) (h : BxS w B g v s) :
    Calls Tryz.prog 61 #[.pointer (some ⟨g, 0, none⟩), .int .i64 a, .int .i64 b] w (Chg w B g v (applyR s ⟨12, a, b⟩)) := by
  obtain ⟨O, cs, hv, X⟩ := h
  obtain ⟨v0, v1, v2, v3, rfl, h0, h1, h2, h3⟩ := O.it
  injection hv with hv
  subst hv
  have H0 := Lib.hid h0
  have H1 := Lib.hid h1
  have H2 := Lib.hid h2
  have H3 := Lib.hid h3
  have HX := Lib.hid X
  have hC := X.C
  have hF := X.frozen
  obtain ⟨ph, co, ck, bo, ba, lb, l0, l1, l2, l3, gd, pr⟩ := s
  dsimp only at *
  clear X O h0 h1 h2 h3
  go_enter Tryz.func61, Tryz.ntmps61
  go_wp2
  refine bodyPost_ret (v := .tuple #[]) (by simp [results, Tryz.results61, go_sem]) rfl ?_
  have X0 := HX.out
  have k0 := Keeps.refl (· = g) w
  have X1 := (World.ownsRow.stored X0 10 (.int .i64 a)).1
  have k1 := k0.set (p := ⟨g, 10, none⟩) rfl (.int .i64 a)
  have X2 := (World.ownsRow.stored X1 11 (.int .i64 b)).1
  have k2 := k1.set (p := ⟨g, 11, none⟩) rfl (.int .i64 b)
  refine ⟨rfl, ⟨_, ⟨v0, v1, v2, v3, rfl, keep_other H0.out HX.out rfl (by decide) k2, keep_other H1.out HX.out rfl (by decide) k2, keep_other H2.out HX.out rfl (by decide) k2, keep_other H3.out HX.out rfl (by decide) k2⟩, _, rfl, X2⟩, k2.mono fun b hb => Or.inl hb⟩
end Go.Proofs.YtnefiefimpjhpaaGreatDoor
/- Xf -/
set_option linter.unusedVariables false
namespace Go.Proofs.YtnefiefimpjhpaaGreatDoor
open Go.RowKit

set_option maxRecDepth 4000 in
set_option maxHeartbeats 2000000 in
theorem chg_phase (v : Value) (s : StD) (a b : Int) (w : World) (B g : Nat) (h : BxS w B g v s) (ha : a ≠ 0) :
    Calls Tryz.prog 50 #[.pointer (some ⟨g, 0, none⟩), .int .i64 a, .int .i64 b] w (Chg w B g v (applyR s ⟨1, a, b⟩)) := by
  obtain ⟨O, cs, hv, X⟩ := h
  obtain ⟨v0, v1, v2, v3, rfl, h0, h1, h2, h3⟩ := O.it
  injection hv with hv
  subst hv
  have H0 := Lib.hid h0
  have H1 := Lib.hid h1
  have H2 := Lib.hid h2
  have H3 := Lib.hid h3
  have HX := Lib.hid X
  have hC := X.C
  have hF := X.frozen
  obtain ⟨ph, co, ck, bo, ba, lb, l0, l1, l2, l3, gd, pr⟩ := s
  have he : applyR ⟨ph, co, ck, bo, ba, lb, l0, l1, l2, l3, gd, pr⟩ ⟨1, a, b⟩ = ⟨a, true, ck, bo, ba, lb, l0, l1, l2, l3, gd, pr⟩ := by simp [applyR, ha]
  have HE := Lib.hid he
  dsimp only at *
  clear X O h0 h1 h2 h3 he
  have hn : (a == 0) = false := by simp [ha]
  have hm : (a != 0) = true := by simp [ha]
  go_enter Tryz.func50, Tryz.ntmps50
  go_wp2
  refine bodyPost_ret (v := .tuple #[]) (by simp [results, Tryz.results50, go_sem]) rfl ?_
  rw [HE.out]
  have X0 := HX.out
  have k0 := Keeps.refl (· = g) w
  have X1 := (World.ownsRow.stored X0 0 (.int .i64 a)).1
  have k1 := k0.set (p := ⟨g, 0, none⟩) rfl (.int .i64 a)
  have X2 := (World.ownsRow.stored X1 1 (.bool true)).1
  have k2 := k1.set (p := ⟨g, 1, none⟩) rfl (.bool true)
  refine ⟨rfl, ⟨_, ⟨v0, v1, v2, v3, rfl, keep_other H0.out HX.out rfl (by decide) k2, keep_other H1.out HX.out rfl (by decide) k2, keep_other H2.out HX.out rfl (by decide) k2, keep_other H3.out HX.out rfl (by decide) k2⟩, _, rfl, X2⟩, k2.mono fun b hb => Or.inl hb⟩

set_option maxRecDepth 4000 in
set_option maxHeartbeats 2000000 in
theorem chg_idle (v : Value) (s : StD) (b : Int) (w : World) (B g : Nat) (hB : B ≤ w.heap.size) (h : BxS w B g v s) :
    Calls Tryz.prog 50 #[.pointer (some ⟨g, 0, none⟩), .int .i64 0, .int .i64 b] w (Chg w B g v (applyR s ⟨1, 0, b⟩)) := by
  obtain ⟨O, cs, hv, X⟩ := h
  obtain ⟨v0, v1, v2, v3, rfl, h0, h1, h2, h3⟩ := O.it
  injection hv with hv
  subst hv
  have H0 := Lib.hid h0
  have H1 := Lib.hid h1
  have H2 := Lib.hid h2
  have H3 := Lib.hid h3
  have HX := Lib.hid X
  have hC := X.C
  have hF := X.frozen
  obtain ⟨ph, co, ck, bo, ba, lb, l0, l1, l2, l3, gd, pr⟩ := s
  dsimp only at *
  have hg := (X.lt).2
  clear X O h0 h1 h2 h3
  have HB := Lib.hid hB
  clear hB
  go_enter Tryz.func50, Tryz.ntmps50
  go_wp2
  refine bodyPost_ret (v := .tuple #[]) (by simp [results, Tryz.results50, go_sem]) rfl ?_
  have X0 := HX.out
  have k0 := Keeps.refl (· = g) w
  have X1 := (World.ownsRow.stored X0 0 (.int .i64 0)).1
  have k1 := k0.set (p := ⟨g, 0, none⟩) rfl (.int .i64 0)
  have X2 := (World.ownsRow.stored X1 1 (.bool false)).1
  have k2 := k1.set (p := ⟨g, 1, none⟩) rfl (.bool false)
  have X3 := (World.ownsRow.stored X2 10 (.int .i64 0)).1
  have k3 := k2.set (p := ⟨g, 10, none⟩) rfl (.int .i64 0)
  have X4 := (World.ownsRow.stored X3 11 (.int .i64 0)).1
  have k4 := k3.set (p := ⟨g, 11, none⟩) rfl (.int .i64 0)
  have X5 := (World.ownsRow.stored X4 9 (.slice (some ⟨w.heap.size, 0, none⟩) 0 0)).1
  have k5 := k4.set (p := ⟨g, 9, none⟩) rfl (.slice (some ⟨w.heap.size, 0, none⟩) 0 0)
  have k6 := k5.trans (Keeps.of_below ((Below.refl _ _).alloc (Nat.le_refl _) (.cells #[] 2)))
  have X6 := ownsRow_below X5 ((Below.refl _ _).alloc (Nat.le_refl _) (.cells #[] 2))
  exact ⟨rfl, ⟨_, ⟨v0, v1, v2, .slice (some ⟨w.heap.size, 0, none⟩) 0 0, rfl, keep_other H0.out HX.out rfl (by decide) k6, keep_other H1.out HX.out rfl (by decide) k6, keep_other H2.out HX.out rfl (by decide) k6, made_at _ _ _ _ _ (by simp) (by have := HB.out; simpa using this)⟩, _, rfl, X6⟩, k6.mono fun b hb => Or.inl hb⟩

set_option maxRecDepth 4000 in
set_option maxHeartbeats 2000000 in
theorem chg_pod (v : Value) (s : StD) (a b : Int) (w : World) (B g : Nat) (h : BxS w B g v s) (ha0 : 0 ≤ a) (ha1 : a < s.pods.length) :
    Calls Tryz.prog 51 #[.pointer (some ⟨g, 0, none⟩), .int .i64 a, .int .i64 b] w (Chg w B g v (applyR s ⟨2, a, b⟩)) := by
  obtain ⟨O, cs, hv, X⟩ := h
  obtain ⟨v0, v1, v2, v3, rfl, h0, h1, h2, h3⟩ := O.it
  injection hv with hv
  subst hv
  have H0 := Lib.hid h0
  have H1 := Lib.hid h1
  have H2 := Lib.hid h2
  have H3 := Lib.hid h3
  have HX := Lib.hid X
  obtain ⟨A, c, m, rfl, hA, hnc, hBg, hgz, R, sl, hx⟩ := open_row h0
  have hC := X.C
  have hF := X.frozen
  obtain ⟨ph, co, ck, bo, ba, lb, l0, l1, l2, l3, gd, pr⟩ := s
  dsimp only at *
  obtain ⟨i, rfl⟩ := Int.eq_ofNat_of_zero_le ha0
  have hi : i < l0.length := by omega
  obtain rfl := hA (by omega)
  have hmg : m ≠ g := fun e => box_apart h0 X (by decide) (by rw [← e]; rfl)
  have HR := Lib.hid R
  unfold maxLen at hx
  have HXX := Lib.hid hx
  clear hA hgz R hBg hx hnc sl X O h0 h1 h2 h3
  have q0 := (HR.out (i * 2) (by rw [podCs_len]; omega)).1.trans (podCs_at l0 hi).1
  have hf0 := (HR.out (i * 2) (by rw [podCs_len]; omega)).2
  have q1 := (HR.out (i * 2 + 1) (by rw [podCs_len]; omega)).1.trans (podCs_at l0 hi).2
  have hf1 := (HR.out (i * 2 + 1) (by rw [podCs_len]; omega)).2
  have HE : Hid (applyR ⟨ph, co, ck, bo, ba, lb, l0, l1, l2, l3, gd, pr⟩ ⟨2, i, b⟩ = ⟨ph, co, ck, bo, ba, lb, l0.set i (b, ck), l1, l2, l3, gd, pr⟩) := Lib.hid rfl
  go_enter Tryz.func51, Tryz.ntmps51
  go_region
  all_goals try go_wp2
  all_goals
    refine bodyPost_ret (v := .tuple #[]) (by simp [results, Tryz.results51, go_sem]) rfl ?_
    rw [HE.out]
    have X0 := HX.out
    have k0 := Keeps.refl (· = m) w
    have s0 := H0.out
    have s1 := (World.ownsRow.stored s0 (i * 2) (.int .i64 b)).1
    have k1 := k0.set (p := ⟨m, i * 2, none⟩) rfl (.int .i64 b)
    have s2 := (World.ownsRow.stored s1 (i * 2 + 1) (.int .i64 ck)).1
    have k2 := k1.set (p := ⟨m, i * 2 + 1, none⟩) rfl (.int .i64 ck)
    have s3 := ownsRow_below s2 (Below.refl _ _).drew
    have k3 := k2.drew
    have hX := X0.keeps k3 (fun e => hmg e.symm)
    refine ⟨rfl, ⟨_, ⟨.slice (some ⟨m, 0, none⟩) l0.length c, v1, v2, v3, rfl, ?_, keep_other H1.out H0.out rfl (by decide) k3, keep_other H2.out H0.out rfl (by decide) k3, keep_other H3.out H0.out rfl (by decide) k3⟩, _, rfl, hX⟩, k3.mono fun b hb => Or.inr ⟨_, 6, _, rfl, rfl, by rw [hb]; rfl⟩⟩
    rw [List.length_set, podCs_set l0 hi]
    exact s3

set_option maxRecDepth 4000 in
set_option maxHeartbeats 2000000 in
theorem chg_busy (v : Value) (s : StD) (a b : Int) (w : World) (B g : Nat) (h : BxS w B g v s) (ha0 : 0 ≤ a) (ha1 : a < s.mnts.length) :
    Calls Tryz.prog 52 #[.pointer (some ⟨g, 0, none⟩), .int .i64 a, .int .i64 b] w (Chg w B g v (applyR s ⟨3, a, b⟩)) := by
  obtain ⟨O, cs, hv, X⟩ := h
  obtain ⟨v0, v1, v2, v3, rfl, h0, h1, h2, h3⟩ := O.it
  injection hv with hv
  subst hv
  have H0 := Lib.hid h0
  have H1 := Lib.hid h1
  have H2 := Lib.hid h2
  have H3 := Lib.hid h3
  have HX := Lib.hid X
  obtain ⟨A, c, m, rfl, hA, hnc, hBg, hgz, R, sl, hx⟩ := open_row h1
  have hC := X.C
  have hF := X.frozen
  obtain ⟨ph, co, ck, bo, ba, lb, l0, l1, l2, l3, gd, pr⟩ := s
  dsimp only at *
  obtain ⟨i, rfl⟩ := Int.eq_ofNat_of_zero_le ha0
  have hi : i < l1.length := by omega
  obtain rfl := hA (by omega)
  have hmg : m ≠ g := fun e => box_apart h1 X (by decide) (by rw [← e]; rfl)
  have HR := Lib.hid R
  unfold maxLen at hx
  have HXX := Lib.hid hx
  clear hA hgz R hBg hx hnc sl X O h0 h1 h2 h3
  have q0 := (HR.out (i * 2) (by rw [mntCs_len]; omega)).1.trans (mntCs_at l1 hi).1
  have hf0 := (HR.out (i * 2) (by rw [mntCs_len]; omega)).2
  have q1 := (HR.out (i * 2 + 1) (by rw [mntCs_len]; omega)).1.trans (mntCs_at l1 hi).2
  have hf1 := (HR.out (i * 2 + 1) (by rw [mntCs_len]; omega)).2
  have HE : Hid (applyR ⟨ph, co, ck, bo, ba, lb, l0, l1, l2, l3, gd, pr⟩ ⟨3, i, b⟩ = ⟨ph, co, ck, bo, ba, lb, l0, l1.set i ((mntA l1 i).1, b), l2, l3, gd, pr⟩) := Lib.hid rfl
  go_enter Tryz.func52, Tryz.ntmps52
  go_wp2
  all_goals
    refine bodyPost_ret (v := .tuple #[]) (by simp [results, Tryz.results52, go_sem]) rfl ?_
    rw [HE.out]
    have X0 := HX.out
    have k0 := Keeps.refl (· = m) w
    have s0 := H1.out
    have s1 := (World.ownsRow.stored s0 (i * 2 + 1) (.int .i64 b)).1
    have k1 := k0.set (p := ⟨m, i * 2 + 1, none⟩) rfl (.int .i64 b)
    have hX := X0.keeps k1 (fun e => hmg e.symm)
    refine ⟨rfl, ⟨_, ⟨v0, .slice (some ⟨m, 0, none⟩) l1.length c, v2, v3, rfl, keep_other H0.out H1.out rfl (by decide) k1, ?_, keep_other H2.out H1.out rfl (by decide) k1, keep_other H3.out H1.out rfl (by decide) k1⟩, _, rfl, hX⟩, k1.mono fun b hb => Or.inr ⟨_, 7, _, rfl, rfl, by rw [hb]; rfl⟩⟩
    rw [List.length_set, mntCs_busy l1 hi]
    exact s1

set_option maxRecDepth 4000 in
set_option maxHeartbeats 2000000 in
theorem chg_free (v : Value) (s : StD) (a b : Int) (w : World) (B g : Nat) (h : BxS w B g v s) (ha0 : 0 ≤ a) (ha1 : a < s.mnts.length) :
    Calls Tryz.prog 53 #[.pointer (some ⟨g, 0, none⟩), .int .i64 a, .int .i64 b] w (Chg w B g v (applyR s ⟨4, a, b⟩)) := by
  obtain ⟨O, cs, hv, X⟩ := h
  obtain ⟨v0, v1, v2, v3, rfl, h0, h1, h2, h3⟩ := O.it
  injection hv with hv
  subst hv
  have H0 := Lib.hid h0
  have H1 := Lib.hid h1
  have H2 := Lib.hid h2
  have H3 := Lib.hid h3
  have HX := Lib.hid X
  obtain ⟨A, c, m, rfl, hA, hnc, hBg, hgz, R, sl, hx⟩ := open_row h1
  have hC := X.C
  have hF := X.frozen
  obtain ⟨ph, co, ck, bo, ba, lb, l0, l1, l2, l3, gd, pr⟩ := s
  dsimp only at *
  obtain ⟨i, rfl⟩ := Int.eq_ofNat_of_zero_le ha0
  have hi : i < l1.length := by omega
  obtain rfl := hA (by omega)
  have hmg : m ≠ g := fun e => box_apart h1 X (by decide) (by rw [← e]; rfl)
  have HR := Lib.hid R
  unfold maxLen at hx
  have HXX := Lib.hid hx
  clear hA hgz R hBg hx hnc sl X O h0 h1 h2 h3
  have q0 := (HR.out (i * 2) (by rw [mntCs_len]; omega)).1.trans (mntCs_at l1 hi).1
  have hf0 := (HR.out (i * 2) (by rw [mntCs_len]; omega)).2
  have q1 := (HR.out (i * 2 + 1) (by rw [mntCs_len]; omega)).1.trans (mntCs_at l1 hi).2
  have hf1 := (HR.out (i * 2 + 1) (by rw [mntCs_len]; omega)).2
  have HE : Hid (applyR ⟨ph, co, ck, bo, ba, lb, l0, l1, l2, l3, gd, pr⟩ ⟨4, i, b⟩ = ⟨ph, co, ck, bo, ba, lb, l0, l1.set i (false, 0), l2, l3, gd, pr⟩) := Lib.hid rfl
  go_enter Tryz.func53, Tryz.ntmps53
  go_wp2
  all_goals
    refine bodyPost_ret (v := .tuple #[]) (by simp [results, Tryz.results53, go_sem]) rfl ?_
    rw [HE.out]
    have X0 := HX.out
    have k0 := Keeps.refl (· = m) w
    have s0 := H1.out
    have s1 := (World.ownsRow.stored s0 (i * 2) (.bool false)).1
    have k1 := k0.set (p := ⟨m, i * 2, none⟩) rfl (.bool false)
    have s2 := (World.ownsRow.stored s1 (i * 2 + 1) (.int .i64 0)).1
    have k2 := k1.set (p := ⟨m, i * 2 + 1, none⟩) rfl (.int .i64 0)
    have hX := X0.keeps k2 (fun e => hmg e.symm)
    refine ⟨rfl, ⟨_, ⟨v0, .slice (some ⟨m, 0, none⟩) l1.length c, v2, v3, rfl, keep_other H0.out H1.out rfl (by decide) k2, ?_, keep_other H2.out H1.out rfl (by decide) k2, keep_other H3.out H1.out rfl (by decide) k2⟩, _, rfl, hX⟩, k2.mono fun b hb => Or.inr ⟨_, 7, _, rfl, rfl, by rw [hb]; rfl⟩⟩
    rw [List.length_set, mntCs_set l1 hi]
    exact s2

set_option maxRecDepth 4000 in
set_option maxHeartbeats 2000000 in
theorem chg_give (v : Value) (s : StD) (a b : Int) (w : World) (B g : Nat) (h : BxS w B g v s) (ha0 : 0 ≤ a) (ha1 : a < s.devs.length) :
    Calls Tryz.prog 54 #[.pointer (some ⟨g, 0, none⟩), .int .i64 a, .int .i64 b] w (Chg w B g v (applyR s ⟨5, a, b⟩)) := by
  obtain ⟨O, cs, hv, X⟩ := h
  obtain ⟨v0, v1, v2, v3, rfl, h0, h1, h2, h3⟩ := O.it
  injection hv with hv
  subst hv
  have H0 := Lib.hid h0
  have H1 := Lib.hid h1
  have H2 := Lib.hid h2
  have H3 := Lib.hid h3
  have HX := Lib.hid X
  obtain ⟨A, c, m, rfl, hA, hnc, hBg, hgz, R, sl, hx⟩ := open_row h2
  have hC := X.C
  have hF := X.frozen
  obtain ⟨ph, co, ck, bo, ba, lb, l0, l1, l2, l3, gd, pr⟩ := s
  dsimp only at *
  obtain ⟨i, rfl⟩ := Int.eq_ofNat_of_zero_le ha0
  have hi : i < l2.length := by omega
  obtain rfl := hA (by omega)
  have hmg : m ≠ g := fun e => box_apart h2 X (by decide) (by rw [← e]; rfl)
  have HR := Lib.hid R
  unfold maxLen at hx
  have HXX := Lib.hid hx
  clear hA hgz R hBg hx hnc sl X O h0 h1 h2 h3
  have q0 := (HR.out i (by rw [devCs_len]; omega)).1.trans (devCs_at l2 hi)
  have hf0 := (HR.out i (by rw [devCs_len]; omega)).2
  have HE : Hid (applyR ⟨ph, co, ck, bo, ba, lb, l0, l1, l2, l3, gd, pr⟩ ⟨5, i, b⟩ = ⟨ph, co, ck, bo, ba, lb, l0, l1, l2.set i false, l3, gd, pr⟩) := Lib.hid rfl
  go_enter Tryz.func54, Tryz.ntmps54
  go_wp2
  all_goals
    refine bodyPost_ret (v := .tuple #[]) (by simp [results, Tryz.results54, go_sem]) rfl ?_
    rw [HE.out]
    have X0 := HX.out
    have k0 := Keeps.refl (· = m) w
    have s0 := H2.out
    have s1 := (World.ownsRow.stored s0 (i) (.bool false)).1
    have k1 := k0.set (p := ⟨m, i, none⟩) rfl (.bool false)
    have hX := X0.keeps k1 (fun e => hmg e.symm)
    refine ⟨rfl, ⟨_, ⟨v0, v1, .slice (some ⟨m, 0, none⟩) l2.length c, v3, rfl, keep_other H0.out H2.out rfl (by decide) k1, keep_other H1.out H2.out rfl (by decide) k1, ?_, keep_other H3.out H2.out rfl (by decide) k1⟩, _, rfl, hX⟩, k1.mono fun b hb => Or.inr ⟨_, 8, _, rfl, rfl, by rw [hb]; rfl⟩⟩
    rw [List.length_set, devCs_set]
    exact s1
end Go.Proofs.YtnefiefimpjhpaaGreatDoor
