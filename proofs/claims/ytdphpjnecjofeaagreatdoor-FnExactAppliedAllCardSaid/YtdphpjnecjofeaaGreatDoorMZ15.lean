/-
  PROVED: FnExactAppliedAllCardSaid: of every plan, every state and every list of records AppliedAll answers as its model; its answer is new memory; the arguments stay. Conditions: none beside the form's own (the one listed table lies as the program's text lays it: the card's tie).
-/
import Derived.Test.YtdphpjnecjofeaaGreatDoorMZxYa
import Derived.Test.YtdphpjnecjofeaaGreatDoorMZ8
import Derived.Deep.RegionHeld3
import Derived.Test.YtdphpjnecjofeaaGreatDoorMZ1
import Derived.Test.YtdphpjnecjofeaaGreatDoorMZ5
import Derived.Test.YtdphpjnecjofeaaGreatDoorCards
import Derived.Test.YtdphpjnecjofeaaGreatDoorTie
import Derived.SevenTiedAt
import Derived.OpenVars
/- Yb -/
set_option linter.unusedVariables false
namespace Go.Proofs.YtdphpjnecjofeaaGreatDoor
open Go.RowKit

set_option maxRecDepth 100000 in
set_option maxHeartbeats 16000000 in
theorem lawAll (pv sv : Value) (A : Option Addr) (n c : Nat) (X : Nat → Int) (d : PlanD) (s : StD) (w : World) (hp : IsPlan w w.heap.size pv d) (hs : IsSt w w.heap.size sv s) (hn : n ≤ maxLen) (hSl : Sl w w.heap.size 3 A n X) (hN : Names w) :
    Calls Tryz.prog 4 #[pv, sv, .slice A n c] w fun e w' => e = .returned (.bool true) ∧ Below w.heap.size w w' := by
  have H := Lib.hid hp
  have HS := Lib.hid hs
  have HSl := Lib.hid hSl
  have HM := Lib.hid hn
  have HN := Lib.hid hN
  clear hSl hn hN
  obtain ⟨⟨A0, A1, A2, A3, c0, c1, c2, c3, rfl, -, -, -, -⟩, b0, b1, b2, b3⟩ := hp
  obtain ⟨⟨E0, E1, E2, E3, k0, k1, k2, k3, rfl, -, -, -, -⟩, -, -, -, -⟩ := hs
  have B0 := Lib.hid b0
  have B1 := Lib.hid b1
  have B2 := Lib.hid b2
  have B3 := Lib.hid b3
  clear b0 b1 b2 b3
  go_enter Tryz.func4, Tryz.ntmps4
  go_wp2_with fail
  have T := Two.start w (planC A0 A1 A2 A3 d.n0 c0 d.n1 c1 d.n2 c2 d.n3 c3 d.l d.p d.t) (stC E0 E1 E2 E3 s.pods.length k0 s.mnts.length k1 s.devs.length k2 s.lks.length k3 s.ph s.co s.ck s.bo s.ba s.lb s.gd s.pr) 27 32
  refine (szPlan_any _ d _ ((H.out.below T.A.K (Nat.le_refl _)).more T.A.K.size)).mono ?_
  rintro e w2 ⟨rfl, hb⟩
  replace T := T.step hb
  have hC := T.A.C
  have hD := T.O.C
  clear hb
  by_cases hsz : d.n0 + d.n1 + d.n2 + d.n3 ≤ 1048576
  · have e0 : szP d = 1048576 - d.n0 - d.n1 - d.n2 - d.n3 := if_pos hsz
    have l0 : 0 ≤ szP d := by omega
    have l1 : szP d ≤ 1048576 := by omega
    clear e0
    generalize szP d = left at *
    go_wp2_with fail
    refine (szState_any _ s left _ ((HS.out.below T.A.K (Nat.le_refl _)).more T.A.K.size) l0 l1).mono ?_
    rintro e w3 ⟨rfl, hb⟩
    replace T := T.step hb
    clear hb hC hD
    by_cases hsz2 : (s.pods.length + s.mnts.length + s.devs.length + s.lks.length : Nat) ≤ left
    · have e0 : szS left s = left - (s.pods.length + s.mnts.length + s.devs.length + s.lks.length : Nat) := if_pos hsz2
      have l2 : 0 ≤ szS left s := by omega
      have l3 : szS left s ≤ 1048576 := by omega
      have hfit : StFits s 1048576 := ⟨by omega, by omega, by omega, by omega⟩
      have F := Lib.hid hfit
      have TS : Hid ((totS s : Int) ≤ 2097152) := Lib.hid (by have := tot_half hsz2; omega)
      clear e0 hsz2 hfit
      generalize szS left s = left2 at *
      go_wp2_with fail
      refine (szRecS_any A n c left2 _ HM.out l2 l3).mono ?_
      rintro e w' ⟨rfl, rfl⟩
      by_cases hsz3 : (n : Int) ≤ left2
      · have e0 : szI left2 n = left2 - n := szI_pos hsz3
        have l4 : 0 ≤ szI left2 n := by omega
        have HZ : Hid (n ≤ 1048576) := Lib.hid (by omega)
        clear e0 hsz3
        generalize szI left2 n = left3 at *
        have q0 : Hid (d.n0 ≤ 1048576) := Lib.hid (by omega)
        have q1 : Hid (d.n1 ≤ 1048576) := Lib.hid (by omega)
        have q2 : Hid (d.n2 ≤ 1048576) := Lib.hid (by omega)
        have q3 : Hid (d.n3 ≤ 1048576) := Lib.hid (by omega)
        have PS : Hid ((1 + 4 * d.n0 + d.n1 + 2 * d.n2 + d.n3 : Int) ≤ 4194305) := Lib.hid (by omega)
        clear hsz l0 l1 l2 l3
        obtain ⟨l, hl⟩ : ∃ l, recsFrom n X = l := ⟨_, rfl⟩
        have HL := Lib.hid hl
        clear hl
        obtain ⟨x, b, hxb⟩ : ∃ x b, appliedL d s l = (x, b) := by
          generalize appliedL d s l = q
          exact ⟨q.1, q.2, rfl⟩
        have HXB := Lib.hid hxb
        have FX : Hid (StFits x 1048576) := Lib.hid (by have := appliedL_fitsY (d := d) (l := l) F.out; rw [hxb] at this; exact this)
        have TX : Hid ((totS x : Int) ≤ 6291456) := Lib.hid (by have := fits_tot FX.out; omega)
        clear hxb
        go_upto_region 11 with fail
        have K0 : Below w3.heap.size w3 w3 := Below.refl _ _
        have S0 : (∀ o, w3.cell? ⟨w.heap.size, o, none⟩ = (planC A0 A1 A2 A3 d.n0 c0 d.n1 c1 d.n2 c2 d.n3 c3 d.l d.p d.t)[o]?) ∧ (∀ o, w3.cell? ⟨w.heap.size + 1, o, none⟩ = (stC E0 E1 E2 E3 s.pods.length k0 s.mnts.length k1 s.devs.length k2 s.lks.length k3 s.ph s.co s.ck s.bo s.ba s.lb s.gd s.pr)[o]?) ∧ Below w3.heap.size w3 w3 := ⟨T.A.C, T.O.C, K0⟩
        have hw0 : w.heap.size < w3.heap.size := T.A.z
        have hw1 : w.heap.size + 1 < w3.heap.size := T.O.z
        go_cut [8, 9] from 35 to 44 (fun s8 s9 wx => ∃ (g : Nat) (cs : Array Value), s8 = .pointer (some ⟨g, 0, none⟩) ∧ s9 = .bool b ∧ Below w3.heap.size w3 wx ∧ BoxS wx w3.heap.size g cs.toList ∧ OwnSt wx w3.heap.size (.agg cs) x)
        case first =>
          go_region_held3 (fun w' => (∀ o, w'.cell? ⟨w.heap.size, o, none⟩ = (planC A0 A1 A2 A3 d.n0 c0 d.n1 c1 d.n2 c2 d.n3 c3 d.l d.p d.t)[o]?) ∧ (∀ o, w'.cell? ⟨w.heap.size + 1, o, none⟩ = (stC E0 E1 E2 E3 s.pods.length k0 s.mnts.length k1 s.devs.length k2 s.lks.length k3 s.ph s.co s.ck s.bo s.ba s.lb s.gd s.pr)[o]?) ∧ Below w3.heap.size w3 w')
            (first | (with_reducible exact S4) | (with_reducible exact S3) | (with_reducible exact S2) | (with_reducible exact S1) | (with_reducible exact S0) | (refine ⟨fun o => (Below.cell (B := w3.heap.size) (w := w3) ?_ hw0).trans (S0.1 o), fun o => (Below.cell (B := w3.heap.size) (w := w3) ?_ hw1).trans (S0.2.1 o), ?_⟩ <;> (repeat (first | (with_reducible exact K4) | (with_reducible exact K3) | (with_reducible exact K2) | (with_reducible exact K1) | (with_reducible exact Below.refl _ _) | (with_reducible refine Below.drew ?_) | (with_reducible refine (fun h => Below.alloc h h.size _) ?_) | (with_reducible refine Below.setCell ?_ (by first | exact Z.lt.1 | exact Nat.le_refl _) _)))))
            (first
            | (go_at_call 20
               have hq := K3
               clear hq
               first
               | (with_reducible refine calls_at (fun W' => Below w3_.heap.size w3_ W' ∧ BoxS W' w3.heap.size w3_.heap.size (stC none none none none 0 0 0 0 0 0 0 0 0 false 0 0 0 0 0 0).toList) ⟨(Below.refl _ _).alloc (Nat.le_refl _) (.cells (stC none none none none 0 0 0 0 0 0 0 0 0 false 0 0 0 0 0 0) 40), BoxS.new rfl K3.size rfl⟩ ?_
                  rintro W' ⟨hW, Z⟩)
               | (with_reducible refine calls_at (fun W' => Below w3_.heap.size w3_ W' ∧ BoxS W' w3.heap.size w3_.heap.size (stC none none none none 0 0 0 0 0 0 0 0 0 false 0 0 0 0 0 0).toList) ⟨((Below.refl _ _).alloc (Nat.le_refl _) (.cells (stC none none none none 0 0 0 0 0 0 0 0 0 false 0 0 0 0 0 0) 40)).drew, BoxS.go (BoxS.new rfl K3.size rfl) (Below.refl _ _).drew⟩ ?_
                  rintro W' ⟨hW, Z⟩)
               | (with_reducible refine calls_at (fun W' => Below w3_.heap.size w3_ W') (Below.refl _ _) ?_
                  intro W' hW
                  try replace Z := Z.go hW)
               | (with_reducible refine calls_at (fun W' => Below w3_.heap.size w3_ W') (Below.refl _ _).drew ?_
                  intro W' hW
                  try replace Z := Z.go hW)
               have hall := specAll_any _ _ _ d s l W' (P1.out.go (((K12.trans (K23.mono K12.size)).trans (hW.mono (K12.trans (K23.mono K12.size)).size)))) (Q2.out.go (K23.trans (hW.mono K23.size))) (R3.out.go hW)
               rw [HXB.out] at hall
               refine hall.mono ?_
               clear hall
               rintro e w4_ ⟨v4_, h4_, O4_, hb⟩
               dsimp only at h4_ O4_
               subst h4_
               have K4 : Below w3.heap.size w3 w4_ := K3.trans ((hW.trans (hb.mono hW.size)).mono K3.size)
               try replace Z := Z.go hb
               have S4 := And.intro (T.step K4).A.C (And.intro (T.step K4).O.C K4)
               try have zC := Z.C
               try have zF := Z.frozen
               replace O4_ := O4_.base (Nat.le_trans K3.size hW.size)
               have HO4 := Lib.hid O4_
               obtain ⟨u0, u1, u2, u3, rfl, y0, y1, y2, y3⟩ := O4_.it
               obtain ⟨G0, m0, rfl, -⟩ := open_rowR y0
               obtain ⟨G1, m1, rfl, -⟩ := open_rowR y1
               obtain ⟨G2, m2, rfl, -⟩ := open_rowR y2
               obtain ⟨G3, m3, rfl, -⟩ := open_rowR y3
               clear y0 y1 y2 y3 O4_ hb hW)
            | (go_at_call 21
               have hq := K2
               clear hq
               first
               | (with_reducible refine calls_at (fun W' => Below w2_.heap.size w2_ W' ∧ BoxS W' w3.heap.size w2_.heap.size (stC none none none none 0 0 0 0 0 0 0 0 0 false 0 0 0 0 0 0).toList) ⟨(Below.refl _ _).alloc (Nat.le_refl _) (.cells (stC none none none none 0 0 0 0 0 0 0 0 0 false 0 0 0 0 0 0) 40), BoxS.new rfl K2.size rfl⟩ ?_
                  rintro W' ⟨hW, Z⟩)
               | (with_reducible refine calls_at (fun W' => Below w2_.heap.size w2_ W' ∧ BoxS W' w3.heap.size w2_.heap.size (stC none none none none 0 0 0 0 0 0 0 0 0 false 0 0 0 0 0 0).toList) ⟨((Below.refl _ _).alloc (Nat.le_refl _) (.cells (stC none none none none 0 0 0 0 0 0 0 0 0 false 0 0 0 0 0 0) 40)).drew, BoxS.go (BoxS.new rfl K2.size rfl) (Below.refl _ _).drew⟩ ?_
                  rintro W' ⟨hW, Z⟩)
               | (with_reducible refine calls_at (fun W' => Below w2_.heap.size w2_ W') (Below.refl _ _) ?_
                  intro W' hW
                  try replace Z := Z.go hW)
               | (with_reducible refine calls_at (fun W' => Below w2_.heap.size w2_ W') (Below.refl _ _).drew ?_
                  intro W' hW
                  try replace Z := Z.go hW)
               refine (toRecS_any A n c X W' ((HSl.out.below (T.step (K2.trans (hW.mono K2.size))).A.K (Nat.le_refl _)).more (T.step (K2.trans (hW.mono K2.size))).A.K.size) HZ.out).mono ?_
               intro e w3_ hmade
               obtain ⟨g3, rfl, -, -, -, R3, hb⟩ := hmade.rt HM.out
               rw [HL.out] at R3
               replace R3 := Lib.hid R3
               have K23 : Below w2_.heap.size w2_ w3_ := hW.trans (hb.mono hW.size)
               have K3 : Below w3.heap.size w3 w3_ := K2.trans ((hW.trans (hb.mono hW.size)).mono K2.size)
               try replace Z := Z.go hb
               have S3 := And.intro (T.step K3).A.C (And.intro (T.step K3).O.C K3)
               clear hb hW hmade)
            | (go_at_call 11
               have hq := K1
               clear hq
               first
               | (with_reducible refine calls_at (fun W' => Below w1_.heap.size w1_ W' ∧ BoxS W' w3.heap.size w1_.heap.size (stC none none none none 0 0 0 0 0 0 0 0 0 false 0 0 0 0 0 0).toList) ⟨(Below.refl _ _).alloc (Nat.le_refl _) (.cells (stC none none none none 0 0 0 0 0 0 0 0 0 false 0 0 0 0 0 0) 40), BoxS.new rfl K1.size rfl⟩ ?_
                  rintro W' ⟨hW, Z⟩)
               | (with_reducible refine calls_at (fun W' => Below w1_.heap.size w1_ W' ∧ BoxS W' w3.heap.size w1_.heap.size (stC none none none none 0 0 0 0 0 0 0 0 0 false 0 0 0 0 0 0).toList) ⟨((Below.refl _ _).alloc (Nat.le_refl _) (.cells (stC none none none none 0 0 0 0 0 0 0 0 0 false 0 0 0 0 0 0) 40)).drew, BoxS.go (BoxS.new rfl K1.size rfl) (Below.refl _ _).drew⟩ ?_
                  rintro W' ⟨hW, Z⟩)
               | (with_reducible refine calls_at (fun W' => Below w1_.heap.size w1_ W') (Below.refl _ _) ?_
                  intro W' hW
                  try replace Z := Z.go hW)
               | (with_reducible refine calls_at (fun W' => Below w1_.heap.size w1_ W') (Below.refl _ _).drew ?_
                  intro W' hW
                  try replace Z := Z.go hW)
               refine (toState_any _ s W' ((HS.out.below (T.step (K1.trans (hW.mono K1.size))).A.K (Nat.le_refl _)).more (T.step (K1.trans (hW.mono K1.size))).A.K.size) F.out).mono ?_
               rintro e w2_ ⟨q0_, q1_, q2_, q3_, rfl, N2, hb⟩
               have Q2 := Lib.hid (N2.isR F.out)
               have K12 : Below w1_.heap.size w1_ w2_ := hW.trans (hb.mono hW.size)
               have K2 : Below w3.heap.size w3 w2_ := K1.trans ((hW.trans (hb.mono hW.size)).mono K1.size)
               try replace Z := Z.go hb
               have S2 := And.intro (T.step K2).A.C (And.intro (T.step K2).O.C K2)
               clear hb hW N2)
            | (go_at_call 10
               first
               | (with_reducible refine calls_at (fun W' => Below w3.heap.size w3 W' ∧ BoxS W' w3.heap.size w3.heap.size (stC none none none none 0 0 0 0 0 0 0 0 0 false 0 0 0 0 0 0).toList) ⟨(Below.refl _ _).alloc (Nat.le_refl _) (.cells (stC none none none none 0 0 0 0 0 0 0 0 0 false 0 0 0 0 0 0) 40), BoxS.new rfl K0.size rfl⟩ ?_
                  rintro W' ⟨hW, Z⟩)
               | (with_reducible refine calls_at (fun W' => Below w3.heap.size w3 W' ∧ BoxS W' w3.heap.size w3.heap.size (stC none none none none 0 0 0 0 0 0 0 0 0 false 0 0 0 0 0 0).toList) ⟨((Below.refl _ _).alloc (Nat.le_refl _) (.cells (stC none none none none 0 0 0 0 0 0 0 0 0 false 0 0 0 0 0 0) 40)).drew, BoxS.go (BoxS.new rfl K0.size rfl) (Below.refl _ _).drew⟩ ?_
                  rintro W' ⟨hW, Z⟩)
               | (with_reducible refine calls_at (fun W' => Below w3.heap.size w3 W') (Below.refl _ _) ?_
                  intro W' hW
                  try replace Z := Z.go hW)
               | (with_reducible refine calls_at (fun W' => Below w3.heap.size w3 W') (Below.refl _ _).drew ?_
                  intro W' hW
                  try replace Z := Z.go hW)
               refine (toPlan_any _ d W' ((H.out.below (T.step hW).A.K (Nat.le_refl _)).more (T.step hW).A.K.size) q0.out q1.out q2.out q3.out).mono ?_
               rintro e w1_ ⟨p0_, p1_, p2_, p3_, rfl, N1, hb⟩
               have P1 := Lib.hid (N1.is B0.out B1.out B2.out B3.out)
               have K1 : Below w3.heap.size w3 w1_ := K0.trans ((hW.trans (hb.mono hW.size)).mono K0.size)
               try replace Z := Z.go hb
               have S1 := And.intro (T.step K1).A.C (And.intro (T.step K1).O.C K1)
               clear hb hW N1))
          all_goals (go_wp2_with fail; go_meet)
          all_goals first
            | (have hz := Z.lt.1
               apply Exists.intro
               apply Exists.intro
               refine ⟨rfl, rfl, K4.trans ((keeps_put12 ..).below K4.size fun b hb e => by subst e; omega), Z.put .., HO4.out.keeps (keeps_put12 ..) fun b hb e => HO4.out.apart Z (by rw [← e]; exact hb)⟩)
            | (apply Exists.intro
               apply Exists.intro
               exact ⟨rfl, rfl, K4.alloc K4.size _, BoxS.new rfl K4.size rfl, HO4.out.below ((Below.refl _ _).alloc (Nat.le_refl _) _)⟩)
        case rest =>
          obtain ⟨g, cs, rfl, rfl, K, BX, O⟩ := hcut
          have hα := hw1
          replace T := T.step K
          have V0 := BX.own T.A.K
          obtain ⟨hg0, hg1⟩ := BX.lt
          obtain ⟨u0, u1, u2, u3, hv, y0, y1, y2, y3⟩ := O.it
          injection hv with hv
          subst hv
          obtain ⟨G0, m0, rfl, -⟩ := open_rowR y0
          obtain ⟨G1, m1, rfl, -⟩ := open_rowR y1
          obtain ⟨G2, m2, rfl, -⟩ := open_rowR y2
          obtain ⟨G3, m3, rfl, -⟩ := open_rowR y3
          have Z0 := RowsIn.of O K.size
          clear y0 y1 y2 y3 O BX S0 K0 hw0 hw1
          have hαβ := K.size
          clear K
          generalize w3.heap.size = α at hα hg0 hαβ Z0
          have hC := T.A.C
          go_wp2_with fail
          refine (toPlan_any _ d _ ((H.out.below T.A.K (Nat.le_refl _)).more T.A.K.size) q0.out q1.out q2.out q3.out).mono ?_
          rintro e w5 ⟨a0, a1, a2, a3, rfl, N, hb⟩
          have hβa := N.l0
          have a01 := N.l1
          have a12 := N.l2
          have a23 := N.l3
          have a3z := N.l4
          have P := Lib.hid (N.is B0.out B1.out B2.out B3.out)
          replace T := T.step hb
          replace V0 := V0.step hb
          replace Z0 := Z0.go hb
          clear hb
          generalize wc.heap.size = β at Z0 hg1 hαβ hβa
          clear hC
          have hC := T.A.C
          have hD := T.O.C
          have hz := T.A.z
          have hz1 := T.O.z
          go_wp2_with fail
          clear hC hD hz hz1
          have hb : Below w5.heap.size w5 (w5.alloc (.cells (planC (some ⟨a0, 0, none⟩) (some ⟨a1, 0, none⟩) (some ⟨a2, 0, none⟩) (some ⟨a3, 0, none⟩) d.n0 d.n0 d.n1 d.n1 d.n2 d.n2 d.n3 d.n3 d.l d.p d.t) 47)) := (Below.refl _ _).alloc (Nat.le_refl _) _
          have U := Own.box2 T.A.K (planC (some ⟨a0, 0, none⟩) (some ⟨a1, 0, none⟩) (some ⟨a2, 0, none⟩) (some ⟨a3, 0, none⟩) d.n0 d.n0 d.n1 d.n1 d.n2 d.n2 d.n3 d.n3 d.l d.p d.t) 47
          have Ul : w5.heap.size < (w5.alloc (.cells (planC (some ⟨a0, 0, none⟩) (some ⟨a1, 0, none⟩) (some ⟨a2, 0, none⟩) (some ⟨a3, 0, none⟩) d.n0 d.n0 d.n1 d.n1 d.n2 d.n2 d.n3 d.n3 d.l d.p d.t) 47)).heap.size := by rw [heap_size_alloc_]; omega
          replace T := T.step hb
          replace V0 := V0.step hb
          replace Z0 := Z0.go hb
          replace N := N.below hb
          replace P := Lib.hid (P.out.go hb)
          clear hb
          generalize hw : w5.alloc (.cells (planC (some ⟨a0, 0, none⟩) (some ⟨a1, 0, none⟩) (some ⟨a2, 0, none⟩) (some ⟨a3, 0, none⟩) d.n0 d.n0 d.n1 d.n1 d.n2 d.n2 d.n3 d.n3 d.l d.p d.t) 47) = w6 at T V0 Z0 N P U Ul ⊢
          generalize hg : w5.heap.size = γ at U Ul a3z ⊢
          clear hw hg
          refine (toState_any _ s _ ((HS.out.below T.A.K (Nat.le_refl _)).more T.A.K.size) F.out).mono ?_
          rintro e w7 ⟨r0, r1, r2, r3, rfl, M, hb⟩
          have Y := M.rowsIn
          have Q := Lib.hid (M.isR F.out)
          have hδ := hb.size
          replace T := T.step hb
          replace V0 := V0.step hb
          replace Z0 := Z0.go hb
          replace N := N.below hb
          replace P := Lib.hid (P.out.go hb)
          replace U := U.step hb
          clear hb
          clear M
          generalize w6.heap.size = δ at Ul Y hδ
          unfold newStV
          go_wp2_with fail
          have hb : Below w7.heap.size w7 (w7.alloc (.cells (stC (some ⟨r0, 0, none⟩) (some ⟨r1, 0, none⟩) (some ⟨r2, 0, none⟩) (some ⟨r3, 0, none⟩) s.pods.length s.pods.length s.mnts.length s.mnts.length s.devs.length s.devs.length s.lks.length s.lks.length s.ph s.co s.ck s.bo s.ba s.lb s.gd s.pr) 40)) := (Below.refl _ _).alloc (Nat.le_refl _) _
          have V1 := Own.box2 T.A.K (stC (some ⟨r0, 0, none⟩) (some ⟨r1, 0, none⟩) (some ⟨r2, 0, none⟩) (some ⟨r3, 0, none⟩) s.pods.length s.pods.length s.mnts.length s.mnts.length s.devs.length s.devs.length s.lks.length s.lks.length s.ph s.co s.ck s.bo s.ba s.lb s.gd s.pr) 40
          have V1l : w7.heap.size < (w7.alloc (.cells (stC (some ⟨r0, 0, none⟩) (some ⟨r1, 0, none⟩) (some ⟨r2, 0, none⟩) (some ⟨r3, 0, none⟩) s.pods.length s.pods.length s.mnts.length s.mnts.length s.devs.length s.devs.length s.lks.length s.lks.length s.ph s.co s.ck s.bo s.ba s.lb s.gd s.pr) 40)).heap.size := by rw [heap_size_alloc_]; omega
          replace T := T.step hb
          replace V0 := V0.step hb
          replace Z0 := Z0.go hb
          replace N := N.below hb
          replace P := Lib.hid (P.out.go hb)
          replace U := U.step hb
          replace Y := Y.go hb
          replace Q := Lib.hid (Q.out.go hb)
          clear hb
          generalize hw : w7.alloc (.cells (stC (some ⟨r0, 0, none⟩) (some ⟨r1, 0, none⟩) (some ⟨r2, 0, none⟩) (some ⟨r3, 0, none⟩) s.pods.length s.pods.length s.mnts.length s.mnts.length s.devs.length s.devs.length s.lks.length s.lks.length s.ph s.co s.ck s.bo s.ba s.lb s.gd s.pr) 40) = w8 at T V0 Z0 N P U Y Q V1 V1l ⊢
          generalize hg : w7.heap.size = ζ at V1 V1l Y hδ ⊢
          clear hw hg
          refine (toRecS_any A n c X _ ((HSl.out.below T.A.K (Nat.le_refl _)).more T.A.K.size) HZ.out).mono ?_
          intro e w9 hmade
          obtain ⟨g2, rfl, hg2, hg2z, F2_, R2, hb⟩ := hmade.rt HM.out
          rw [HL.out] at R2
          have hζ : ζ < g2 := Nat.lt_of_lt_of_le V1l hg2
          have F2 : RowB _ g2 (n * 3) X := ⟨F2_, hg2z⟩
          replace T := T.step hb
          replace V0 := V0.step hb
          replace Z0 := Z0.go hb
          replace N := N.below hb
          replace P := Lib.hid (P.out.go hb)
          replace U := U.step hb
          replace Y := Y.go hb
          replace Q := Lib.hid (Q.out.go hb)
          replace V1 := V1.step hb
          clear hb
          clear hmade F2_ hg2 V1l
          have hU := U.C
          have hV := V1.C
          go_wp2_with fail
          have hall := implAll_any _ _ _ d s l _ P.out Q.out R2 (HN.out.go T.A.K)
          rw [HXB.out] at hall
          refine hall.mono ?_
          clear hall
          rintro e w10 ⟨v1, h1, O1, hb⟩
          dsimp only at h1 O1
          subst h1
          have Z1 := RowsIn.of O1 hb.size
          obtain ⟨J0, J1, J2, J3, j0, j1, j2, j3, rfl⟩ := Z1.val
          have hε := hb.size
          clear hU hV O1
          replace T := T.step hb
          replace V0 := V0.step hb
          replace Z0 := Z0.go hb
          replace N := N.below hb
          replace P := Lib.hid (P.out.go hb)
          replace U := U.step hb
          replace Y := Y.go hb
          replace Q := Lib.hid (Q.out.go hb)
          replace V1 := V1.step hb
          replace F2 := F2.go hb
          replace R2 := R2.go hb
          clear hb
          generalize w9.heap.size = ε at hg2z hε Z1
          have hC := V0.C
          have hz := V0.z
          go_wp2_with fail
          clear hC hz
          have hb : Below w10.heap.size w10 (w10.alloc (.cells (stC J0 J1 J2 J3 x.pods.length j0 x.mnts.length j1 x.devs.length j2 x.lks.length j3 x.ph x.co x.ck x.bo x.ba x.lb x.gd x.pr) 40)) := (Below.refl _ _).alloc (Nat.le_refl _) _
          have W1 := Own.box2 T.A.K (stC J0 J1 J2 J3 x.pods.length j0 x.mnts.length j1 x.devs.length j2 x.lks.length j3 x.ph x.co x.ck x.bo x.ba x.lb x.gd x.pr) 40
          have W1l : w10.heap.size < (w10.alloc (.cells (stC J0 J1 J2 J3 x.pods.length j0 x.mnts.length j1 x.devs.length j2 x.lks.length j3 x.ph x.co x.ck x.bo x.ba x.lb x.gd x.pr) 40)).heap.size := by rw [heap_size_alloc_]; omega
          replace T := T.step hb
          replace V0 := V0.step hb
          replace Z0 := Z0.go hb
          replace N := N.below hb
          replace P := Lib.hid (P.out.go hb)
          replace U := U.step hb
          replace Y := Y.go hb
          replace Q := Lib.hid (Q.out.go hb)
          replace V1 := V1.step hb
          replace F2 := F2.go hb
          replace R2 := R2.go hb
          replace Z1 := Z1.go hb
          clear hb
          generalize hw : w10.alloc (.cells (stC J0 J1 J2 J3 x.pods.length j0 x.mnts.length j1 x.devs.length j2 x.lks.length j3 x.ph x.co x.ck x.bo x.ba x.lb x.gd x.pr) 40) = w11 at T V0 Z0 N P U Y Q V1 F2 R2 Z1 W1 W1l ⊢
          generalize hg : w10.heap.size = κ at W1 W1l Z1 hε ⊢
          clear hw hg
          refine (eqState_same _ _ x _ (Z1.is FX.out) (Z0.is FX.out)).mono ?_
          rintro e w12 ⟨rfl, hb⟩
          replace T := T.step hb
          replace V0 := V0.step hb
          replace Z0 := Z0.go hb
          replace N := N.below hb
          replace P := Lib.hid (P.out.go hb)
          replace U := U.step hb
          replace Y := Y.go hb
          replace Q := Lib.hid (Q.out.go hb)
          replace V1 := V1.step hb
          replace F2 := F2.go hb
          replace R2 := R2.go hb
          replace Z1 := Z1.go hb
          replace W1 := W1.step hb
          clear hb
          go_wp2_with fail
          -- the plan is as it was
          have S0 : (∀ o, w12.cell? ⟨w.heap.size, o, none⟩ = (planC A0 A1 A2 A3 d.n0 c0 d.n1 c1 d.n2 c2 d.n3 c3 d.l d.p d.t)[o]?) ∧ (∀ o, w12.cell? ⟨γ, o, none⟩ = (planC (some ⟨a0, 0, none⟩) (some ⟨a1, 0, none⟩) (some ⟨a2, 0, none⟩) (some ⟨a3, 0, none⟩) d.n0 d.n0 d.n1 d.n1 d.n2 d.n2 d.n3 d.n3 d.l d.p d.t)[o]?) ∧ Below w12.heap.size w12 w12 := ⟨T.A.C, U.C, Below.refl _ _⟩
          go_region_held3 (fun w' => (∀ o, w'.cell? ⟨w.heap.size, o, none⟩ = (planC A0 A1 A2 A3 d.n0 c0 d.n1 c1 d.n2 c2 d.n3 c3 d.l d.p d.t)[o]?) ∧ (∀ o, w'.cell? ⟨γ, o, none⟩ = (planC (some ⟨a0, 0, none⟩) (some ⟨a1, 0, none⟩) (some ⟨a2, 0, none⟩) (some ⟨a3, 0, none⟩) d.n0 d.n0 d.n1 d.n1 d.n2 d.n2 d.n3 d.n3 d.l d.p d.t)[o]?) ∧ Below w12.heap.size w12 w')
            (first | exact S0 | exact S1 | exact S2 | (exact ⟨S0.1, S0.2.1, S0.2.2.drew⟩))
            (first
              | (go_at_call 15
                 have hq := S1
                 clear hq
                 refine (eqPlan_same _ _ d _ ((P.out.below K1 (Nat.le_refl _)).more K1.size) P1.out).mono ?_
                 rintro e w2a ⟨rfl, hb⟩
                 have K2 : Below w12.heap.size w12 w2a := K1.trans (hb.mono K1.size)
                 have S2 := And.intro (T.step K2).A.C (And.intro (U.step K2).C K2))
              | (go_at_call 10
                 have K0 : Below w12.heap.size w12 w12.drew := (Below.refl _ _).drew
                 refine (toPlan_any _ d _ ((H.out.below (T.step K0).A.K (Nat.le_refl _)).more (T.step K0).A.K.size) q0.out q1.out q2.out q3.out).mono ?_
                 rintro e w1a ⟨z0, z1, z2, z3, rfl, N1, hb⟩
                 have P1 := Lib.hid (N1.is B0.out B1.out B2.out B3.out)
                 have K1 : Below w12.heap.size w12 w1a := K0.trans hb
                 clear hb
                 have S1 := And.intro (T.step K1).A.C (And.intro (U.step K1).C K1)))
          clear S0 S1 S2 K0 K1 hb
          have hb := K2
          clear K2
          clear N1 P1
          replace T := T.step hb
          replace V0 := V0.step hb
          replace Z0 := Z0.go hb
          replace N := N.below hb
          replace P := Lib.hid (P.out.go hb)
          replace U := U.step hb
          replace Y := Y.go hb
          replace Q := Lib.hid (Q.out.go hb)
          replace V1 := V1.step hb
          replace F2 := F2.go hb
          replace R2 := R2.go hb
          replace Z1 := Z1.go hb
          replace W1 := W1.step hb
          clear hb
          rename_i hHeld
          clear hHeld
          go_wp2_with fail
          -- the state is as it was
          have S0 : (∀ o, w2a.cell? ⟨w.heap.size + 1, o, none⟩ = (stC E0 E1 E2 E3 s.pods.length k0 s.mnts.length k1 s.devs.length k2 s.lks.length k3 s.ph s.co s.ck s.bo s.ba s.lb s.gd s.pr)[o]?) ∧ (∀ o, w2a.cell? ⟨ζ, o, none⟩ = (stC (some ⟨r0, 0, none⟩) (some ⟨r1, 0, none⟩) (some ⟨r2, 0, none⟩) (some ⟨r3, 0, none⟩) s.pods.length s.pods.length s.mnts.length s.mnts.length s.devs.length s.devs.length s.lks.length s.lks.length s.ph s.co s.ck s.bo s.ba s.lb s.gd s.pr)[o]?) ∧ Below w2a.heap.size w2a w2a := ⟨T.O.C, V1.C, Below.refl _ _⟩
          go_region_held3 (fun w' => (∀ o, w'.cell? ⟨w.heap.size + 1, o, none⟩ = (stC E0 E1 E2 E3 s.pods.length k0 s.mnts.length k1 s.devs.length k2 s.lks.length k3 s.ph s.co s.ck s.bo s.ba s.lb s.gd s.pr)[o]?) ∧ (∀ o, w'.cell? ⟨ζ, o, none⟩ = (stC (some ⟨r0, 0, none⟩) (some ⟨r1, 0, none⟩) (some ⟨r2, 0, none⟩) (some ⟨r3, 0, none⟩) s.pods.length s.pods.length s.mnts.length s.mnts.length s.devs.length s.devs.length s.lks.length s.lks.length s.ph s.co s.ck s.bo s.ba s.lb s.gd s.pr)[o]?) ∧ Below w2a.heap.size w2a w')
            (first | exact S0 | exact S1 | exact S2 | (exact ⟨S0.1, S0.2.1, S0.2.2.drew⟩))
            (first
              | (go_at_call 14
                 have hq := S1
                 clear hq
                 refine (eqState_same _ _ s _ ((Q.out.is.below K1 (Nat.le_refl _)).more K1.size) Q1.out).mono ?_
                 rintro e w2b ⟨rfl, hb⟩
                 have K2 : Below w2a.heap.size w2a w2b := K1.trans (hb.mono K1.size)
                 have S2 := And.intro (T.step K2).O.C (And.intro (V1.step K2).C K2))
              | (go_at_call 11
                 have K0 : Below w2a.heap.size w2a w2a.drew := (Below.refl _ _).drew
                 refine (toState_any _ s _ ((HS.out.below (T.step K0).A.K (Nat.le_refl _)).more (T.step K0).A.K.size) F.out).mono ?_
                 rintro e w1b ⟨z0, z1, z2, z3, rfl, N1, hb⟩
                 have Q1 := Lib.hid (N1.is F.out)
                 have K1 : Below w2a.heap.size w2a w1b := K0.trans hb
                 clear hb
                 have S1 := And.intro (T.step K1).O.C (And.intro (V1.step K1).C K1)))
          clear S0 S1 S2 K0 K1 hb
          have hb := K2
          clear K2
          clear N1 Q1
          replace T := T.step hb
          replace V0 := V0.step hb
          replace Z0 := Z0.go hb
          replace N := N.below hb
          replace P := Lib.hid (P.out.go hb)
          replace U := U.step hb
          replace Y := Y.go hb
          replace Q := Lib.hid (Q.out.go hb)
          replace V1 := V1.step hb
          replace F2 := F2.go hb
          replace R2 := R2.go hb
          replace Z1 := Z1.go hb
          replace W1 := W1.step hb
          clear hb
          rename_i hHeld
          clear hHeld
          go_wp2_with fail
          -- the records are as they were
          refine (toRecS_any A n c X _ ((HSl.out.below T.A.K (Nat.le_refl _)).more T.A.K.size) HZ.out).mono ?_
          intro e w13 hmade
          obtain ⟨g4, rfl, -, -, -, R4, hb⟩ := hmade.rt HM.out
          rw [HL.out] at R4
          clear hmade
          replace T := T.step hb
          replace V0 := V0.step hb
          replace Z0 := Z0.go hb
          replace N := N.below hb
          replace P := Lib.hid (P.out.go hb)
          replace U := U.step hb
          replace Y := Y.go hb
          replace Q := Lib.hid (Q.out.go hb)
          replace V1 := V1.step hb
          replace F2 := F2.go hb
          replace R2 := R2.go hb
          replace Z1 := Z1.go hb
          replace W1 := W1.step hb
          clear hb
          go_wp2_with fail
          refine (eqRecS_same _ _ l _ R2 R4).mono ?_
          rintro e w14 ⟨rfl, hb⟩
          clear R4
          replace T := T.step hb
          replace V0 := V0.step hb
          replace Z0 := Z0.go hb
          replace N := N.below hb
          replace P := Lib.hid (P.out.go hb)
          replace U := U.step hb
          replace Y := Y.go hb
          replace Q := Lib.hid (Q.out.go hb)
          replace V1 := V1.step hb
          replace F2 := F2.go hb
          replace R2 := R2.go hb
          replace Z1 := Z1.go hb
          replace W1 := W1.step hb
          clear hb
          have hU := U.C
          go_wp2_with fail
          -- the arguments are marked
          refine (markPlan_num d a0 a1 a2 a3 _ _ N q0.out q1.out q2.out q3.out).mono ?_
          rintro e w15 ⟨rfl, hk⟩
          clear hU
          clear N P Q R2 U
          replace T := T.keeps hk (by rintro b ⟨hb1, hb2⟩; omega)
          replace V0 := V0.keeps hk (by rintro b ⟨hb1, hb2⟩; omega) (by rintro ⟨hb1, hb2⟩; omega)
          replace Z0 := Z0.keeps hk (by rintro b p1 p2 ⟨hb1, hb2⟩; omega)
          replace Y := Y.keeps hk (by rintro b p1 p2 ⟨hb1, hb2⟩; omega)
          replace V1 := V1.keeps hk (by rintro b ⟨hb1, hb2⟩; omega) (by rintro ⟨hb1, hb2⟩; omega)
          replace F2 := F2.keeps hk (by rintro ⟨hb1, hb2⟩; omega)
          replace Z1 := Z1.keeps hk (by rintro b p1 p2 ⟨hb1, hb2⟩; omega)
          replace W1 := W1.keeps hk (by rintro b ⟨hb1, hb2⟩; omega) (by rintro ⟨hb1, hb2⟩; omega)
          clear hk
          have p0 : (0 : Int) ≤ 1 + 4 * d.n0 + d.n1 + 2 * d.n2 + d.n3 := by omega
          have p1 := PS.out
          generalize (1 + 4 * d.n0 + d.n1 + 2 * d.n2 + d.n3 : Int) = kk at p0 p1 ⊢
          have hV := V1.C
          go_wp2_with fail
          refine (markIn_any _ s _ _ kk _ Y F.out p0 (by have := TS.out; omega)).mono ?_
          rintro e w16 ⟨rfl, -, hk⟩
          clear hV
          clear Y V1
          replace T := T.keeps hk (by rintro b ⟨hb1, hb2⟩; omega)
          replace V0 := V0.keeps hk (by rintro b ⟨hb1, hb2⟩; omega) (by rintro ⟨hb1, hb2⟩; omega)
          replace Z0 := Z0.keeps hk (by rintro b p1 p2 ⟨hb1, hb2⟩; omega)
          replace F2 := F2.keeps hk (by rintro ⟨hb1, hb2⟩; omega)
          replace Z1 := Z1.keeps hk (by rintro b p1 p2 ⟨hb1, hb2⟩; omega)
          replace W1 := W1.keeps hk (by rintro b ⟨hb1, hb2⟩; omega) (by rintro ⟨hb1, hb2⟩; omega)
          clear hk
          have p2 : (0 : Int) ≤ kk + totS s := by omega
          have p3 : kk + totS s ≤ 6291457 := by have := TS.out; omega
          generalize (kk + totS s : Int) = kq at p2 p3 ⊢
          clear p0 p1
          go_wp2_with fail
          refine (markRecS_any _ n _ g2 kq X _ (fun _ => rfl) F2.R HZ.out p2 (by omega)).mono ?_
          rintro e w17 ⟨rfl, -, hk⟩
          clear F2
          replace T := T.keeps hk (by rintro b rfl; omega)
          replace V0 := V0.keeps hk (by rintro b rfl; omega) (by rintro rfl; omega)
          replace Z0 := Z0.keeps hk (by rintro b p1 p2 rfl; omega)
          replace Z1 := Z1.keeps hk (by rintro b p1 p2 rfl; omega)
          replace W1 := W1.keeps hk (by rintro b rfl; omega) (by rintro rfl; omega)
          clear hk
          have p4 : ¬ (kq + 3 * (n : Int) < 0) := by omega
          have p5 : decide (kq + 3 * (n : Int) < 0) = false := by simp [p4]
          clear p2 p3
          have hW := W1.C
          have hC := V0.C
          go_wp2_with fail
          refine (eqState_same _ _ x _ (Z1.is FX.out) (Z0.is FX.out)).mono ?_
          rintro e w18 ⟨rfl, hb⟩
          clear p4 p5 hW hC
          replace T := T.step hb
          replace V0 := V0.step hb
          replace Z0 := Z0.go hb
          replace Z1 := Z1.go hb
          replace W1 := W1.step hb
          clear hb
          have hW := W1.C
          go_wp2_with fail
          -- the answer is marked
          refine (markIn_any _ x _ _ 1 _ Z1 FX.out (by omega) (by have := TX.out; omega)).mono ?_
          rintro e w19 ⟨rfl, Zm, hk⟩
          clear hW
          clear Z1
          replace T := T.keeps hk (by rintro b ⟨hb1, hb2⟩; omega)
          replace V0 := V0.keeps hk (by rintro b ⟨hb1, hb2⟩; omega) (by rintro ⟨hb1, hb2⟩; omega)
          replace Z0 := Z0.keeps hk (by rintro b p1 p2 ⟨hb1, hb2⟩; omega)
          replace W1 := W1.keeps hk (by rintro b ⟨hb1, hb2⟩; omega) (by rintro ⟨hb1, hb2⟩; omega)
          clear hk
          have Z1 := Zm
          clear Zm
          have hW := W1.C
          go_wp2_with fail
          refine (heldIn_any _ x _ _ 1 _ Z1 FX.out (by omega) (by have := TX.out; omega)).mono ?_
          rintro e w20 ⟨rfl, hb⟩
          clear hW
          replace T := T.step hb
          replace V0 := V0.step hb
          replace Z0 := Z0.go hb
          replace W1 := W1.step hb
          replace Z1 := Z1.go hb
          clear hb
          have nn : ¬ ((1 : Int) + (totS x : Int) < 0) := by omega
          -- once more, of other copies
          go_upto_region 38 with fail
          have K0 : Below w20.heap.size w20 w20 := Below.refl _ _
          have S0 : (∀ o, w20.cell? ⟨w.heap.size, o, none⟩ = (planC A0 A1 A2 A3 d.n0 c0 d.n1 c1 d.n2 c2 d.n3 c3 d.l d.p d.t)[o]?) ∧ (∀ o, w20.cell? ⟨w.heap.size + 1, o, none⟩ = (stC E0 E1 E2 E3 s.pods.length k0 s.mnts.length k1 s.devs.length k2 s.lks.length k3 s.ph s.co s.ck s.bo s.ba s.lb s.gd s.pr)[o]?) ∧ Below w20.heap.size w20 w20 := ⟨T.A.C, T.O.C, K0⟩
          have hw0 : w.heap.size < w20.heap.size := T.A.z
          have hw1 : w.heap.size + 1 < w20.heap.size := T.O.z
          go_cut [18, 19] from 115 to 124 (fun s8 s9 wx => ∃ (g : Nat) (cs : Array Value), s8 = .pointer (some ⟨g, 0, none⟩) ∧ s9 = .bool b ∧ Below w20.heap.size w20 wx ∧ BoxS wx w20.heap.size g cs.toList ∧ OwnSt wx w20.heap.size (.agg cs) x)
          case first =>
            go_region_held3 (fun w' => (∀ o, w'.cell? ⟨w.heap.size, o, none⟩ = (planC A0 A1 A2 A3 d.n0 c0 d.n1 c1 d.n2 c2 d.n3 c3 d.l d.p d.t)[o]?) ∧ (∀ o, w'.cell? ⟨w.heap.size + 1, o, none⟩ = (stC E0 E1 E2 E3 s.pods.length k0 s.mnts.length k1 s.devs.length k2 s.lks.length k3 s.ph s.co s.ck s.bo s.ba s.lb s.gd s.pr)[o]?) ∧ Below w20.heap.size w20 w')
              (first | (with_reducible exact S4) | (with_reducible exact S3) | (with_reducible exact S2) | (with_reducible exact S1) | (with_reducible exact S0) | (refine ⟨fun o => (Below.cell (B := w20.heap.size) (w := w20) ?_ hw0).trans (S0.1 o), fun o => (Below.cell (B := w20.heap.size) (w := w20) ?_ hw1).trans (S0.2.1 o), ?_⟩ <;> (repeat (first | (with_reducible exact K4) | (with_reducible exact K3) | (with_reducible exact K2) | (with_reducible exact K1) | (with_reducible exact Below.refl _ _) | (with_reducible refine Below.drew ?_) | (with_reducible refine (fun h => Below.alloc h h.size _) ?_) | (with_reducible refine Below.setCell ?_ (by first | exact Z.lt.1 | exact Nat.le_refl _) _)))))
              (first
              | (go_at_call 22
                 have hq := K3
                 clear hq
                 first
                 | (with_reducible refine calls_at (fun W' => Below w3_.heap.size w3_ W' ∧ BoxS W' w20.heap.size w3_.heap.size (stC none none none none 0 0 0 0 0 0 0 0 0 false 0 0 0 0 0 0).toList) ⟨(Below.refl _ _).alloc (Nat.le_refl _) (.cells (stC none none none none 0 0 0 0 0 0 0 0 0 false 0 0 0 0 0 0) 40), BoxS.new rfl K3.size rfl⟩ ?_
                    rintro W' ⟨hW, Z⟩)
                 | (with_reducible refine calls_at (fun W' => Below w3_.heap.size w3_ W' ∧ BoxS W' w20.heap.size w3_.heap.size (stC none none none none 0 0 0 0 0 0 0 0 0 false 0 0 0 0 0 0).toList) ⟨((Below.refl _ _).alloc (Nat.le_refl _) (.cells (stC none none none none 0 0 0 0 0 0 0 0 0 false 0 0 0 0 0 0) 40)).drew, BoxS.go (BoxS.new rfl K3.size rfl) (Below.refl _ _).drew⟩ ?_
                    rintro W' ⟨hW, Z⟩)
                 | (with_reducible refine calls_at (fun W' => Below w3_.heap.size w3_ W') (Below.refl _ _) ?_
                    intro W' hW
                    try replace Z := Z.go hW)
                 | (with_reducible refine calls_at (fun W' => Below w3_.heap.size w3_ W') (Below.refl _ _).drew ?_
                    intro W' hW
                    try replace Z := Z.go hW)
                 have hall := implAll_any _ _ _ d s l W' (P1.out.go (((K12.trans (K23.mono K12.size)).trans (hW.mono (K12.trans (K23.mono K12.size)).size)))) (Q2.out.go (K23.trans (hW.mono K23.size))) (R3.out.go hW) (HN.out.go (T.A.K.trans ((K3.trans (hW.mono K3.size)).mono T.A.K.size)))
                 rw [HXB.out] at hall
                 refine hall.mono ?_
                 clear hall
                 rintro e w4_ ⟨v4_, h4_, O4_, hb⟩
                 dsimp only at h4_ O4_
                 subst h4_
                 have K4 : Below w20.heap.size w20 w4_ := K3.trans ((hW.trans (hb.mono hW.size)).mono K3.size)
                 try replace Z := Z.go hb
                 have S4 := And.intro (T.step K4).A.C (And.intro (T.step K4).O.C K4)
                 try have zC := Z.C
                 try have zF := Z.frozen
                 replace O4_ := O4_.base (Nat.le_trans K3.size hW.size)
                 have HO4 := Lib.hid O4_
                 obtain ⟨u0, u1, u2, u3, rfl, y0, y1, y2, y3⟩ := O4_.it
                 obtain ⟨D0, h0, rfl, -⟩ := open_rowR y0
                 obtain ⟨D1, h1, rfl, -⟩ := open_rowR y1
                 obtain ⟨D2, h2, rfl, -⟩ := open_rowR y2
                 obtain ⟨D3, h3, rfl, -⟩ := open_rowR y3
                 clear y0 y1 y2 y3 O4_ hb hW)
              | (go_at_call 21
                 have hq := K2
                 clear hq
                 first
                 | (with_reducible refine calls_at (fun W' => Below w2_.heap.size w2_ W' ∧ BoxS W' w20.heap.size w2_.heap.size (stC none none none none 0 0 0 0 0 0 0 0 0 false 0 0 0 0 0 0).toList) ⟨(Below.refl _ _).alloc (Nat.le_refl _) (.cells (stC none none none none 0 0 0 0 0 0 0 0 0 false 0 0 0 0 0 0) 40), BoxS.new rfl K2.size rfl⟩ ?_
                    rintro W' ⟨hW, Z⟩)
                 | (with_reducible refine calls_at (fun W' => Below w2_.heap.size w2_ W' ∧ BoxS W' w20.heap.size w2_.heap.size (stC none none none none 0 0 0 0 0 0 0 0 0 false 0 0 0 0 0 0).toList) ⟨((Below.refl _ _).alloc (Nat.le_refl _) (.cells (stC none none none none 0 0 0 0 0 0 0 0 0 false 0 0 0 0 0 0) 40)).drew, BoxS.go (BoxS.new rfl K2.size rfl) (Below.refl _ _).drew⟩ ?_
                    rintro W' ⟨hW, Z⟩)
                 | (with_reducible refine calls_at (fun W' => Below w2_.heap.size w2_ W') (Below.refl _ _) ?_
                    intro W' hW
                    try replace Z := Z.go hW)
                 | (with_reducible refine calls_at (fun W' => Below w2_.heap.size w2_ W') (Below.refl _ _).drew ?_
                    intro W' hW
                    try replace Z := Z.go hW)
                 refine (toRecS_any A n c X W' ((HSl.out.below (T.step (K2.trans (hW.mono K2.size))).A.K (Nat.le_refl _)).more (T.step (K2.trans (hW.mono K2.size))).A.K.size) HZ.out).mono ?_
                 intro e w3_ hmade
                 obtain ⟨g3, rfl, -, -, -, R3, hb⟩ := hmade.rt HM.out
                 rw [HL.out] at R3
                 replace R3 := Lib.hid R3
                 have K23 : Below w2_.heap.size w2_ w3_ := hW.trans (hb.mono hW.size)
                 have K3 : Below w20.heap.size w20 w3_ := K2.trans ((hW.trans (hb.mono hW.size)).mono K2.size)
                 try replace Z := Z.go hb
                 have S3 := And.intro (T.step K3).A.C (And.intro (T.step K3).O.C K3)
                 clear hb hW hmade)
              | (go_at_call 11
                 have hq := K1
                 clear hq
                 first
                 | (with_reducible refine calls_at (fun W' => Below w1_.heap.size w1_ W' ∧ BoxS W' w20.heap.size w1_.heap.size (stC none none none none 0 0 0 0 0 0 0 0 0 false 0 0 0 0 0 0).toList) ⟨(Below.refl _ _).alloc (Nat.le_refl _) (.cells (stC none none none none 0 0 0 0 0 0 0 0 0 false 0 0 0 0 0 0) 40), BoxS.new rfl K1.size rfl⟩ ?_
                    rintro W' ⟨hW, Z⟩)
                 | (with_reducible refine calls_at (fun W' => Below w1_.heap.size w1_ W' ∧ BoxS W' w20.heap.size w1_.heap.size (stC none none none none 0 0 0 0 0 0 0 0 0 false 0 0 0 0 0 0).toList) ⟨((Below.refl _ _).alloc (Nat.le_refl _) (.cells (stC none none none none 0 0 0 0 0 0 0 0 0 false 0 0 0 0 0 0) 40)).drew, BoxS.go (BoxS.new rfl K1.size rfl) (Below.refl _ _).drew⟩ ?_
                    rintro W' ⟨hW, Z⟩)
                 | (with_reducible refine calls_at (fun W' => Below w1_.heap.size w1_ W') (Below.refl _ _) ?_
                    intro W' hW
                    try replace Z := Z.go hW)
                 | (with_reducible refine calls_at (fun W' => Below w1_.heap.size w1_ W') (Below.refl _ _).drew ?_
                    intro W' hW
                    try replace Z := Z.go hW)
                 refine (toState_any _ s W' ((HS.out.below (T.step (K1.trans (hW.mono K1.size))).A.K (Nat.le_refl _)).more (T.step (K1.trans (hW.mono K1.size))).A.K.size) F.out).mono ?_
                 rintro e w2_ ⟨q0_, q1_, q2_, q3_, rfl, N2, hb⟩
                 have Q2 := Lib.hid (N2.isR F.out)
                 have K12 : Below w1_.heap.size w1_ w2_ := hW.trans (hb.mono hW.size)
                 have K2 : Below w20.heap.size w20 w2_ := K1.trans ((hW.trans (hb.mono hW.size)).mono K1.size)
                 try replace Z := Z.go hb
                 have S2 := And.intro (T.step K2).A.C (And.intro (T.step K2).O.C K2)
                 clear hb hW N2)
              | (go_at_call 10
                 first
                 | (with_reducible refine calls_at (fun W' => Below w20.heap.size w20 W' ∧ BoxS W' w20.heap.size w20.heap.size (stC none none none none 0 0 0 0 0 0 0 0 0 false 0 0 0 0 0 0).toList) ⟨(Below.refl _ _).alloc (Nat.le_refl _) (.cells (stC none none none none 0 0 0 0 0 0 0 0 0 false 0 0 0 0 0 0) 40), BoxS.new rfl K0.size rfl⟩ ?_
                    rintro W' ⟨hW, Z⟩)
                 | (with_reducible refine calls_at (fun W' => Below w20.heap.size w20 W' ∧ BoxS W' w20.heap.size w20.heap.size (stC none none none none 0 0 0 0 0 0 0 0 0 false 0 0 0 0 0 0).toList) ⟨((Below.refl _ _).alloc (Nat.le_refl _) (.cells (stC none none none none 0 0 0 0 0 0 0 0 0 false 0 0 0 0 0 0) 40)).drew, BoxS.go (BoxS.new rfl K0.size rfl) (Below.refl _ _).drew⟩ ?_
                    rintro W' ⟨hW, Z⟩)
                 | (with_reducible refine calls_at (fun W' => Below w20.heap.size w20 W') (Below.refl _ _) ?_
                    intro W' hW
                    try replace Z := Z.go hW)
                 | (with_reducible refine calls_at (fun W' => Below w20.heap.size w20 W') (Below.refl _ _).drew ?_
                    intro W' hW
                    try replace Z := Z.go hW)
                 refine (toPlan_any _ d W' ((H.out.below (T.step hW).A.K (Nat.le_refl _)).more (T.step hW).A.K.size) q0.out q1.out q2.out q3.out).mono ?_
                 rintro e w1_ ⟨p0_, p1_, p2_, p3_, rfl, N1, hb⟩
                 have P1 := Lib.hid (N1.is B0.out B1.out B2.out B3.out)
                 have K1 : Below w20.heap.size w20 w1_ := K0.trans ((hW.trans (hb.mono hW.size)).mono K0.size)
                 try replace Z := Z.go hb
                 have S1 := And.intro (T.step K1).A.C (And.intro (T.step K1).O.C K1)
                 clear hb hW N1))
            all_goals (go_wp2_with fail; go_meet)
            all_goals first
              | (have hz := Z.lt.1
                 apply Exists.intro
                 apply Exists.intro
                 refine ⟨rfl, rfl, K4.trans ((keeps_put12 ..).below K4.size fun b hb e => by subst e; omega), Z.put .., HO4.out.keeps (keeps_put12 ..) fun b hb e => HO4.out.apart Z (by rw [← e]; exact hb)⟩)
              | (apply Exists.intro
                 apply Exists.intro
                 exact ⟨rfl, rfl, K4.alloc K4.size _, BoxS.new rfl K4.size rfl, HO4.out.below ((Below.refl _ _).alloc (Nat.le_refl _) _)⟩)
          case rest =>
            obtain ⟨g5, cs, rfl, rfl, hb, BX, O⟩ := hcut
            have Z2 := RowsIn.of O hb.size
            obtain ⟨u0, u1, u2, u3, hv, y0, y1, y2, y3⟩ := O.it
            injection hv with hv
            subst hv
            obtain ⟨D0, h0, rfl, -⟩ := open_rowR y0
            obtain ⟨D1, h1, rfl, -⟩ := open_rowR y1
            obtain ⟨D2, h2, rfl, -⟩ := open_rowR y2
            obtain ⟨D3, h3, rfl, -⟩ := open_rowR y3
            clear y0 y1 y2 y3 O S0 K0 hw0 hw1
            replace T := T.step hb
            replace V0 := V0.step hb
            replace Z0 := Z0.go hb
            replace W1 := W1.step hb
            replace Z1 := Z1.go hb
            clear hb
            have V2 := BX.own T.A.K
            clear BX
            have hC := V0.C
            have hV := V2.C
            go_wp2_with fail
            refine (eqState_same _ _ x _ (Z2.is FX.out) (Z0.is FX.out)).mono ?_
            rintro e w21 ⟨rfl, hb⟩
            clear hC hV V2 Z2
            replace T := T.step hb
            replace V0 := V0.step hb
            replace Z0 := Z0.go hb
            replace W1 := W1.step hb
            replace Z1 := Z1.go hb
            clear hb
            have hW := W1.C
            go_wp2_with fail
            refine (heldIn_any _ x _ _ 1 _ Z1 FX.out (by omega) (by have := TX.out; omega)).mono ?_
            rintro e w22 ⟨rfl, hb⟩
            clear hW
            replace T := T.step hb
            replace V0 := V0.step hb
            replace Z0 := Z0.go hb
            replace W1 := W1.step hb
            replace Z1 := Z1.go hb
            clear hb
            go_wp2_with fail
            go_ret
            exact ⟨rfl, T.A.K⟩
      · have e0 : szI left2 n = -1 := szI_neg hsz3
        rw [e0]
        clear e0
        go_wp2_with fail
        go_ret
        exact ⟨rfl, T.A.K⟩
    · have e0 : szS left s = -1 := if_neg hsz2
      rw [e0]
      clear e0
      go_wp2_with fail
      go_ret
      exact ⟨rfl, T.A.K⟩
  · have e0 : szP d = -1 := if_neg hsz
    rw [e0]
    clear e0
    go_wp2_with fail
    go_ret
    exact ⟨rfl, T.A.K⟩
end Go.Proofs.YtdphpjnecjofeaaGreatDoor
/- YbCard -/
set_option linter.unusedVariables false
namespace Go.Proofs.YtdphpjnecjofeaaGreatDoor
open Go.ChangeShapes Go.WideShapes Go.ChangeAt Go.RowKit Go.Deep

namespace fnExactAppliedAllRow
set_option maxRecDepth 100000 in
theorem contract (H : Type) (enc : TypeId × Value → H) (W : World) (base : Nat) (args : Array Value) (ds gs : List (DataW H)) (before : List MemPlace)
    (hval : ∀ (j : Nat) t v, Tryz.f4.params[j]? = some t → args[j]? = some v → Value.okWide Tryz.prog W .any base t v)
    (hW : DataW.Whole enc Tryz.prog Tryz.f4.params.toList Rows.fnExactAppliedAllSpec.vars false W args.toList ds gs before)
    (hL : laidMetH Tryz.prog Rows.fnExactAppliedAllRow.laid W) :
    Calls Tryz.prog 4 args W fun e W' => ∃ v, e = .returned v ∧ Rows.fnExactAppliedAllSpec.post enc Tryz.prog Tryz.f4 false true false false W args v W' := by
  have hW' := hW
  obtain ⟨p, q, hA0, hV, rfl, hfz, hnd⟩ := hW
  have hA : DataW.TrodAll enc Tryz.prog W 0 (fun _ => true) true Tryz.f4.params.toList args.toList ds p := hA0
  rw [Tryz.params4] at hA hval
  obtain ⟨v0, v1, v2, d0, d1, d2, p0, p1, p2, rfl, rfl, rfl, h0, h1, h2⟩ := trodAll_three hA
  have hN := names_of_laid hL
  have hlt0 : ∀ x ∈ p0, x.block < W.heap.size := fun x hx => hW'.lt x (List.mem_append_left _ (List.mem_append_left _ (List.mem_append_left _ hx)))
  have hlt1 : ∀ x ∈ p1, x.block < W.heap.size := fun x hx => hW'.lt x (List.mem_append_left _ (List.mem_append_left _ (List.mem_append_right _ hx)))
  have hlt2 : ∀ x ∈ p2, x.block < W.heap.size := fun x hx => hW'.lt x (List.mem_append_left _ (List.mem_append_right _ hx))
  obtain ⟨dv, rfl⟩ : ∃ dv, gs = [dv] := by obtain ⟨_, _, _, _, dv, _, e, _⟩ := trodVars_one hV; exact ⟨dv, e⟩
  obtain ⟨D, hD⟩ := open_plan (hval 0 27 v0 rfl rfl) h0
  obtain ⟨s, hS⟩ := open_state (hval 1 32 v1 rfl rfl) h1
  obtain ⟨A, n, c, X, rfl, hn, hR⟩ := open_recs (hval 2 57 v2 rfl rfl) h2
  clear hA0
  refine (lawAll v0 v1 A n c X D s W hD hS hn hR hN).mono fun e W' ⟨he, K⟩ => ?_
  subst he
  refine ⟨_, rfl, ⟨_, _, _, [], p0 ++ p1 ++ p2, q, hW', ?_, ?_, ?_, K.frame _, fun h => by cases h⟩⟩
  · exact trodAll_mk1 (shut_bool Tryz.underlying4 _)
  · rw [List.append_assoc]
    exact trodAll_mk3 (Below.trod laid_ (by kernel_rfl) (of_decide_eq_true (by kernel_rfl)) h0 K hlt0) (Below.trod laid_ (by kernel_rfl) (of_decide_eq_true (by kernel_rfl)) h1 K hlt1) (Below.trod laid_ (by kernel_rfl) (of_decide_eq_true (by kernel_rfl)) h2 K hlt2)
  · exact Below.trodVars laid_ K (by kernel_rfl) hV

set_option maxRecDepth 100000 in
theorem lifted (os : Os) (started : os.Started) (H : Type) (enc : TypeId × Value → H) :
    ReturnsInHanded {} Tryz.checked os 4 .any (fun w args => (Rows.fnExactAppliedAllSpec.pre enc Tryz.prog Tryz.f4 Rows.fnExactAppliedAllRow.domain false w args ∧ laidMetH Tryz.prog Rows.fnExactAppliedAllRow.laid w) ∧ sizedMet enc Tryz.prog Tryz.f4 (OpenSpec.ofChange Rows.fnExactAppliedAllSpec) false w args)
      (Rows.fnExactAppliedAllSpec.post enc Tryz.prog Tryz.f4 false true false false) := by
  refine returnsInHanded_of_change_and (C := Tryz.checked) (X := fun w _ => laidMetH Tryz.prog Rows.fnExactAppliedAllRow.laid w) (fun _ _ _ hh h => h.of_heap hh) own_ started (by kernel_rfl) Tryz.func4
    (ChangeSpec.witness_at (enc := enc) (C := Tryz.checked) (os := os) (X := fun w _ => laidMetH Tryz.prog Rows.fnExactAppliedAllRow.laid w) false (laidWorld os) #[planV none none none none 0 0 0 0 0 0 0 0 0 0 0, .agg (stC none none none none 0 0 0 0 0 0 0 0 0 false 0 0 0 0 0 0), .slice none 0 0] 8 rfl (by kernel_rfl) (by kernel_rfl) (by kernel_rfl) (by kernel_rfl) (by kernel_rfl) (laidWorld_met os _)) ?_
  intro W base args ds gs before hval hW _ _ hL _
  exact contract H enc W base args ds gs before hval hW hL
end fnExactAppliedAllRow

theorem fnExactAppliedAll_row : Rows.FnExactAppliedAllSaid :=
  OpenClaim.holds_of_wide 4 Tryz.f4 rfl rfl rfl rfl rfl rfl rfl ⟨rfl, rfl, rfl, rfl, rfl⟩ rfl rfl rfl rfl rfl (by kernel_rfl) Tryz.func4 (by kernel_rfl)
    (of_decide_eq_true (by kernel_rfl)) (by unfold Func.isWrapper; first | (rw [if_pos (by decide +kernel)]; kernel_rfl) | (rw [if_neg (by decide +kernel)]; exact ⟨rfl, rfl⟩))
    (fun os started H enc _ => fnExactAppliedAllRow.lifted os started H enc)
theorem fnExactAppliedAll_holds : Rows.FnExactAppliedAllCardSaid :=
  Claim7.holds_tied_plain_at .later [] [.data] true (true, "15bf401f4c702e812a6d36bd633aefde72431cc50e7deb406c5532528cc5f13f") true
    fnExactAppliedAll_row (fun _ h => by cases h) (by kernel_rfl) (fun _ h => by cases h) fnExactAppliedAll_row_tie rfl ⟨rfl, rfl⟩ (by kernel_rfl) rfl
    (fun f fn hf hfn => by
      obtain rfl : f = 4 := Option.some.inj ((show Tryz.prog.funcNamed "loop.example/g00767/laws.FnExactAppliedAll" = some 4 by kernel_rfl).symm.trans hf) |>.symm
      obtain rfl : fn = Tryz.f4 := (Option.some.inj (Tryz.func4.symm.trans hfn)).symm
      exact ⟨by kernel_rfl, fun j t ht => by
        rw [Tryz.params4] at ht
        have h3 : t = 27 ∨ t = 32 ∨ t = 57 := by
          rcases j with _ | _ | _ | j
          · exact .inl (by simpa using ht.symm)
          · exact .inr (.inl (by simpa using ht.symm))
          · exact .inr (.inr (by simpa using ht.symm))
          · simp at ht
        rcases h3 with rfl | rfl | rfl
        · exact (show Tryz.prog.wantsStandIn 27 = false by kernel_rfl)
        · exact (show Tryz.prog.wantsStandIn 32 = false by kernel_rfl)
        · exact (show Tryz.prog.wantsStandIn 57 = false by kernel_rfl)⟩)
    (by kernel_rfl)
#print axioms fnExactAppliedAll_holds
end Go.Proofs.YtdphpjnecjofeaaGreatDoor
