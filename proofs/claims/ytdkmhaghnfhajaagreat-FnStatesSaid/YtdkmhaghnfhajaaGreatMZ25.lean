/-
  PROVED: FnStatesSaid: at every input that can be read the law answers true: a new state of a drawn plan is right, idle, all its pods live and all its mounts held; StateOk, LiveIn and Alive answer as their model; the input is as it was. Conditions: none beside the form's own.
-/
import Derived.Test.YtdkmhaghnfhajaaGreatMZ15
import Derived.Test.YtdkmhaghnfhajaaGreatMZ2
import Derived.Test.YtdkmhaghnfhajaaGreatMZ0
import Derived.Test.YtdkmhaghnfhajaaGreatMZxVnA
import Derived.Test.YtdkmhaghnfhajaaGreatMZxVc
import Derived.Test.YtdkmhaghnfhajaaGreatMZxVbS
import Derived.Test.YtdkmhaghnfhajaaGreatMZ5
import Derived.Test.YtdkmhaghnfhajaaGreatMZxVlA
import Derived.Test.YtdkmhaghnfhajaaGreatMZxPt
/- Zp -/
set_option linter.unusedVariables false
namespace Go.Proofs.YtdkmhaghnfhajaaGreat
open Go.RowKit

/-- A list made while nothing that was there turned. -/
def HeldL (w0 W : World) (L : List Int) (e : Ending) (W' : World) : Prop := ∃ v, e = .returned v ∧ Lst W' v L ∧ Below W.heap.size W W' ∧ Below w0.heap.size w0 W'
theorem HeldL.of {w0 W W' : World} {L : List Int} {e : Ending} (h : Listed W L e W') (K : Below w0.heap.size w0 W) : HeldL w0 W L e W' := by
  obtain ⟨v, he, O, hb⟩ := h
  exact ⟨v, he, Lst.of O, hb, K.trans (hb.mono K.size)⟩
theorem newS_facts {d : PlanD} (h : planOkB d = true) : stOkB d (newS d) = true ∧ (newS d).ph = 0 ∧ (newS d).co = false ∧ (newS d).pods.length = d.n0 ∧ (newS d).mnts.length = d.n2 ∧ (liveL (newS d)).length = d.n0 ∧ ∀ i, i < d.n2 → (mntA (newS d).mnts i).1 = true := by
  refine ⟨stOkB_iff.2 (newS_ok h), ?_⟩
  unfold newS
  rw [if_pos h]
  refine ⟨rfl, rfl, by simp, by simp, ?_, ?_⟩
  · simp only [liveL, picks, List.length_map, List.length_replicate]
    rw [List.filter_eq_self.2]
    · simp
    · intro i hi
      have : i < d.n0 := by simpa using hi
      simp [List.getD, this, aliveB, inB]
  · intro i hi
    simp [mntA, List.getD, hi]

theorem OwnSt.mslv {W : World} {B : Nat} {Y0 Y1 Y2 Y3 : Option Addr} {n0 f0 n1 f1 n2 f2 n3 f3 : Nat} {ph : Int} {co : Bool} {ck bo ba lb gd pr : Int} {s : StD} (h : OwnSt W B (.agg (stC Y0 Y1 Y2 Y3 n0 f0 n1 f1 n2 f2 n3 f3 ph co ck bo ba lb gd pr)) s) : SlV W W.heap.size 2 Y1 s.mnts.length (mntCs s.mnts) := by
  obtain ⟨A0, A1, A2, A3, c0, c1, c2, c3, hv, z0, z1, z2, z3⟩ := h.st.it
  injection hv with hv
  have h7 := congrArg (fun x : Array Value => x[7]?) hv
  simp at h7
  obtain ⟨rfl, -⟩ := h7
  exact z1
theorem mnt_held {W : World} {B n : Nat} {A : Option Addr} {l : List (Bool × Int)} (h : SlV W B 2 A l.length (mntCs l)) (hn : l.length = n) (hh : ∀ i, i < n → (mntA l i).1 = true) {i : Nat} (hi : i < n) : ∃ b off, A = some ⟨b, off, none⟩ ∧ W.cell? ⟨b, off + i * 2, none⟩ = some (.bool true) := by
  subst hn
  obtain ⟨b, off, rfl, -, hc⟩ := h.cell hi
  refine ⟨b, off, rfl, ?_⟩
  have := hc 0 (by decide)
  rw [Nat.add_zero, Nat.add_zero, (mntCs_at l hi).1, hh i hi] at this
  exact this

set_option maxRecDepth 100000 in
set_option maxHeartbeats 8000000 in
theorem lawStates_of (HS : Hid (∀ (g : Nat) (w : World), Cur 81 .u64 w g → Calls Tryz.prog 8 #[.pointer (some ⟨g, 0, none⟩)] w (DrawnPlan 81 .u64 (fun d => planOkB d = true ∧ d.n0 ≤ 6 ∧ d.n1 ≤ 3 ∧ d.n2 ≤ 5 ∧ d.n3 ≤ 3) g w)))
    (A : Option Addr) (n c : Nat) (w : World) (hB : Bytes w w.heap.size A n) (hn : n ≤ maxLen) : Calls Tryz.prog 3 #[.slice A n c] w fun e w' => e = .returned (.bool true) ∧ Below w.heap.size w w' := by
  have HB := Lib.hid hB
  clear hB
  go_enter Tryz.func3, Tryz.ntmps3
  go_wp2_with fail
  refine (big_any A n c _ hn).mono ?_
  rintro e w2 ⟨rfl, rfl⟩
  by_cases hbig : 4096 < (n : Int)
  · go_wp2_with fail
    go_ret
    exact ⟨rfl, Below.refl _ _⟩
  · have hn4 : n ≤ 4096 := by omega
    clear hbig
    go_wp2_with fail
    refine (roll_any A n c 5 _ HB.out hn4).mono ?_
    rintro e w2 ⟨g, rfl, hg, hc, hb⟩
    have K2 := Lib.hid hb
    clear hb
    go_wp2_with fail
    refine (HS.out g _ hc).mono ?_
    rintro e w3 ⟨v0, v1, v2, v3, d, rfl, o0, o1, o2, o3, hc3, hk, hq, b0, b1, b2, b3⟩
    have L3 : Lists w3 w2.heap.size v0 v1 v2 v3 d := ⟨o0, o1, o2, o3⟩
    have K3 := Lib.hid (K2.out.trans (hk.below (B := w.heap.size) K2.out.size (fun b hb e => by have e : b = g := e; omega)))
    have h23 : w2.heap.size ≤ w3.heap.size := hk.size
    obtain ⟨V0, C0, rfl, -, -⟩ := o0.form
    obtain ⟨V1, C1, rfl, -, -⟩ := o1.form
    obtain ⟨V2, C2, rfl, -, -⟩ := o2.form
    obtain ⟨V3, C3, rfl, -, -⟩ := o3.form
    clear hk hc hc3 o0 o1 o2 o3 K2 HS
    go_upto_region 4 with fail
    have hb4 : Below w3.heap.size w3 (w3.alloc (.cells (planC V0 V1 V2 V3 d.n0 C0 d.n1 C1 d.n2 C2 d.n3 C3 d.l d.p d.t) 29)) := (Below.refl _ _).alloc (Nat.le_refl _) _
    have YA := Own.box2 K3.out (planC V0 V1 V2 V3 d.n0 C0 d.n1 C1 d.n2 C2 d.n3 C3 d.l d.p d.t) 29
    have P4 := (L3.below hb4).plan
    clear hb4 L3 K3 h23
    generalize w3.alloc (.cells (planC V0 V1 V2 V3 d.n0 C0 d.n1 C1 d.n2 C2 d.n3 C3 d.l d.p d.t) 29) = w4 at YA P4 ⊢
    have hC := YA.C
    go_wp2_with fail
    refine (implNewState_any _ d w4 P4).mono ?_
    rintro e w5 ⟨v, rfl, Os, hb⟩
    obtain ⟨f1, f2, f3, f4, f5, f6, f7⟩ := newS_facts hq
    generalize newS d = s0 at Os f1 f2 f3 f4 f5 f6 f7
    have HF2 := Lib.hid f2
    have HF3 := Lib.hid f3
    have HF4 := Lib.hid f4
    have HF5 := Lib.hid f5
    clear f2 f3 f4 f5
    have P5 := (P4.below hb (Nat.le_refl _)).more hb.size
    replace YA := YA.step hb
    clear hC P4 hb
    obtain ⟨y0, y1, y2, y3, rfl, -⟩ := Os.it
    obtain ⟨⟨E0, k0, rfl⟩, ⟨E1, k1, rfl⟩, ⟨E2, k2, rfl⟩, ⟨E3, k3, rfl⟩⟩ := Os.shapes
    go_upto_region 5 with fail
    have hb6 : Below w5.heap.size w5 (w5.alloc (.cells (stC E0 E1 E2 E3 s0.pods.length k0 s0.mnts.length k1 s0.devs.length k2 s0.lks.length k3 s0.ph s0.co s0.ck s0.bo s0.ba s0.lb s0.gd s0.pr) 38)) := (Below.refl _ _).alloc (Nat.le_refl _) _
    have YB := Own.box2 YA.K (stC E0 E1 E2 E3 s0.pods.length k0 s0.mnts.length k1 s0.devs.length k2 s0.lks.length k3 s0.ph s0.co s0.ck s0.bo s0.ba s0.lb s0.gd s0.pr) 38
    replace YA := YA.step hb6
    replace P5 := (P5.below hb6 (Nat.le_refl _)).more hb6.size
    replace Os := Os.below hb6
    clear hb6
    generalize w5.alloc (.cells (stC E0 E1 E2 E3 s0.pods.length k0 s0.mnts.length k1 s0.devs.length k2 s0.lks.length k3 s0.ph s0.co s0.ck s0.bo s0.ba s0.lb s0.gd s0.pr) 38) = w6 at YA YB P5 Os ⊢
    go_wp2_with fail
    refine (drawStateOk_any A n c w6 ((HB.out.below YA.K (Nat.le_refl _)).more YA.K.size) hn4).mono ?_
    rintro e w7 ⟨u0, u1, u2, u3, q, us, s, rfl, L7, O7, hqs, hss, hb⟩
    replace YA := YA.step hb
    replace YB := YB.step hb
    replace P5 := (P5.below hb (Nat.le_refl _)).more hb.size
    replace Os := Os.below hb
    clear hb
    obtain ⟨U0, G0, rfl, -, -⟩ := L7.o0.form
    obtain ⟨U1, G1, rfl, -, -⟩ := L7.o1.form
    obtain ⟨U2, G2, rfl, -, -⟩ := L7.o2.form
    obtain ⟨U3, G3, rfl, -, -⟩ := L7.o3.form
    obtain ⟨y0, y1, y2, y3, rfl, -⟩ := O7.it
    obtain ⟨⟨Y0, t0_, rfl⟩, ⟨Y1, t1_, rfl⟩, ⟨Y2, t2_, rfl⟩, ⟨Y3, t3_, rfl⟩⟩ := O7.shapes
    go_upto_region 6 with fail
    have hb8 : Below w7.heap.size w7 ((w7.alloc (.cells (planC U0 U1 U2 U3 q.n0 G0 q.n1 G1 q.n2 G2 q.n3 G3 q.l q.p q.t) 29)).alloc (.cells (stC Y0 Y1 Y2 Y3 s.pods.length t0_ s.mnts.length t1_ s.devs.length t2_ s.lks.length t3_ s.ph s.co s.ck s.bo s.ba s.lb s.gd s.pr) 38)) := ((Below.refl _ _).alloc (Nat.le_refl _) _).alloc (by simp) _
    have YC0 := Own.box2 YA.K (planC U0 U1 U2 U3 q.n0 G0 q.n1 G1 q.n2 G2 q.n3 G3 q.l q.p q.t) 29
    have YC := YC0.step ((Below.refl _ _).alloc (Nat.le_refl _) (.cells (stC Y0 Y1 Y2 Y3 s.pods.length t0_ s.mnts.length t1_ s.devs.length t2_ s.lks.length t3_ s.ph s.co s.ck s.bo s.ba s.lb s.gd s.pr) 38))
    have YD := Own.box2 YC0.K (stC Y0 Y1 Y2 Y3 s.pods.length t0_ s.mnts.length t1_ s.devs.length t2_ s.lks.length t3_ s.ph s.co s.ck s.bo s.ba s.lb s.gd s.pr) 38
    replace YA := YA.step hb8
    replace YB := YB.step hb8
    replace P5 := (P5.below hb8 (Nat.le_refl _)).more hb8.size
    have X5 := (Os.below hb8).st
    replace Os := Os.below hb8
    have Q8 := (L7.below hb8).plan
    have X8 := (O7.below hb8).st
    have hqn := hqs.s0
    have hsn := hss.s0
    clear hb8 L7 O7 YC0 HB
    rw [heap_size_alloc_] at YD
    generalize (w7.alloc (.cells (planC U0 U1 U2 U3 q.n0 G0 q.n1 G1 q.n2 G2 q.n3 G3 q.l q.p q.t) 29)).alloc (.cells (stC Y0 Y1 Y2 Y3 s.pods.length t0_ s.mnts.length t1_ s.devs.length t2_ s.lks.length t3_ s.ph s.co s.ck s.bo s.ba s.lb s.gd s.pr) 38) = w8 at YA YB YC YD P5 X5 Q8 X8 Os ⊢
    rw [HF2.out, HF3.out] at X5 YB
    have HD := Lib.hid hq
    have HF := Lib.hid f1
    have HL := Lib.hid f6
    obtain ⟨bq, hbq⟩ : ∃ b, stOkB q s = b := ⟨_, rfl⟩
    have HP1 : Hid (∀ W, Below w8.heap.size w8 W → Calls Tryz.prog 12 #[.agg (planC V0 V1 V2 V3 d.n0 C0 d.n1 C1 d.n2 C2 d.n3 C3 d.l d.p d.t), .agg (stC E0 E1 E2 E3 s0.pods.length k0 s0.mnts.length k1 s0.devs.length k2 s0.lks.length k3 0 false s0.ck s0.bo s0.ba s0.lb s0.gd s0.pr)] W (fun e W' => e = .returned (.bool true) ∧ Below w8.heap.size w8 W')) :=
      Lib.hid fun W K => (implStateOk_any _ _ d s0 W ((P5.below K (Nat.le_refl _)).more K.size) ((X5.below K (Nat.le_refl _)).more K.size)).mono fun e W' ⟨h, b⟩ => ⟨by rw [h, f1], K.trans (b.mono K.size)⟩
    have HP2 : Hid (∀ W, Below w8.heap.size w8 W → Calls Tryz.prog 12 #[.agg (planC U0 U1 U2 U3 q.n0 G0 q.n1 G1 q.n2 G2 q.n3 G3 q.l q.p q.t), .agg (stC Y0 Y1 Y2 Y3 s.pods.length t0_ s.mnts.length t1_ s.devs.length t2_ s.lks.length t3_ s.ph s.co s.ck s.bo s.ba s.lb s.gd s.pr)] W (fun e W' => e = .returned (.bool bq) ∧ Below w8.heap.size w8 W')) :=
      Lib.hid fun W K => (implStateOk_any _ _ q s W ((Q8.below K (Nat.le_refl _)).more K.size) ((X8.below K (Nat.le_refl _)).more K.size)).mono fun e W' ⟨h, b⟩ => ⟨by rw [h, hbq], K.trans (b.mono K.size)⟩
    have HP3 : Hid (∀ W, Below w8.heap.size w8 W → Calls Tryz.prog 14 #[.agg (planC U0 U1 U2 U3 q.n0 G0 q.n1 G1 q.n2 G2 q.n3 G3 q.l q.p q.t), .agg (stC Y0 Y1 Y2 Y3 s.pods.length t0_ s.mnts.length t1_ s.devs.length t2_ s.lks.length t3_ s.ph s.co s.ck s.bo s.ba s.lb s.gd s.pr)] W (fun e W' => e = .returned (.bool bq) ∧ Below w8.heap.size w8 W')) :=
      Lib.hid fun W K => (specStateOk_any _ _ q s W ((Q8.below K (Nat.le_refl _)).more K.size) ((X8.below K (Nat.le_refl _)).more K.size)).mono fun e W' ⟨h, b⟩ => ⟨by rw [h, hbq], K.trans (b.mono K.size)⟩
    have HI1 : Hid (∀ W, Below w8.heap.size w8 W → Calls Tryz.prog 13 #[.agg (stC E0 E1 E2 E3 s0.pods.length k0 s0.mnts.length k1 s0.devs.length k2 s0.lks.length k3 0 false s0.ck s0.bo s0.ba s0.lb s0.gd s0.pr)] W (fun e W' => ∃ A' c', e = .returned (.slice A' d.n0 c') ∧ Below w8.heap.size w8 W')) :=
      Lib.hid fun W K => (implLiveIn_any _ s0 W ((X5.below K (Nat.le_refl _)).more K.size) (by have := HF4.out; omega)).mono fun e W' ⟨v, h, b1, b2⟩ => by
        obtain ⟨A', c', rfl, -⟩ := Lst.of b1
        exact ⟨A', c', by rw [h, f6], K.trans (b2.mono K.size)⟩
    have HI2 : Hid (∀ W, Below w8.heap.size w8 W → Calls Tryz.prog 13 #[.agg (stC Y0 Y1 Y2 Y3 s.pods.length t0_ s.mnts.length t1_ s.devs.length t2_ s.lks.length t3_ s.ph s.co s.ck s.bo s.ba s.lb s.gd s.pr)] W (HeldL w8 W (liveL s))) :=
      Lib.hid fun W K => (implLiveIn_any _ s W ((X8.below K (Nat.le_refl _)).more K.size) (by omega)).mono fun e W' h => HeldL.of h K
    have HJ2 : Hid (∀ W, Below w8.heap.size w8 W → Calls Tryz.prog 16 #[.agg (stC Y0 Y1 Y2 Y3 s.pods.length t0_ s.mnts.length t1_ s.devs.length t2_ s.lks.length t3_ s.ph s.co s.ck s.bo s.ba s.lb s.gd s.pr)] W (HeldL w8 W (liveL s))) :=
      Lib.hid fun W K => (specLiveIn_any _ s W ((X8.below K (Nat.le_refl _)).more K.size) (by omega)).mono fun e W' h => HeldL.of h K
    have HL1 : Hid ((liveL s).length ≤ maxLen) := Lib.hid (Nat.le_trans (liveL_le s) (by unfold maxLen; omega))
    have K7 : Below w8.heap.size w8 w8 := Below.refl _ _
    have K8 : Below w8.heap.size w8 w8.drew := K7.drew
    have S7 := And.intro (YA.step K7).C (And.intro (YB.step K7).C (And.intro (YC.step K7).C (And.intro (YD.step K7).C K7)))
    have S8 := And.intro (YA.step K8).C (And.intro (YB.step K8).C (And.intro (YC.step K8).C (And.intro (YD.step K8).C K8)))
    clear hbq Q8 X8 X5 P5 f1 f6 hq
    have HF7 := Lib.hid f7
    clear f7
    go_cut [59] from 21 to 58 (fun v59 wx => v59 = .bool false ∧ Below w8.heap.size w8 wx)
    case first =>
      go_region_held3 (fun W => (∀ o, W.cell? ⟨w3.heap.size, o, none⟩ = (planC V0 V1 V2 V3 d.n0 C0 d.n1 C1 d.n2 C2 d.n3 C3 d.l d.p d.t)[o]?) ∧ (∀ o, W.cell? ⟨w5.heap.size, o, none⟩ = (stC E0 E1 E2 E3 s0.pods.length k0 s0.mnts.length k1 s0.devs.length k2 s0.lks.length k3 0 false s0.ck s0.bo s0.ba s0.lb s0.gd s0.pr)[o]?) ∧ (∀ o, W.cell? ⟨w7.heap.size, o, none⟩ = (planC U0 U1 U2 U3 q.n0 G0 q.n1 G1 q.n2 G2 q.n3 G3 q.l q.p q.t)[o]?) ∧ (∀ o, W.cell? ⟨w7.heap.size + 1, o, none⟩ = (stC Y0 Y1 Y2 Y3 s.pods.length t0_ s.mnts.length t1_ s.devs.length t2_ s.lks.length t3_ s.ph s.co s.ck s.bo s.ba s.lb s.gd s.pr)[o]?) ∧ Below w8.heap.size w8 W)
        (first | assumption)
        (first
          | (have hq := Kp1
             clear hq
             go_at_call 12
             refine (HP2.out _ (by assumption)).mono ?_
             rintro e wp2 ⟨rfl, Kp2⟩
             have Sp2 := And.intro (YA.step Kp2).C (And.intro (YB.step Kp2).C (And.intro (YC.step Kp2).C (And.intro (YD.step Kp2).C Kp2))))
          | (go_at_call 12
             refine (HP1.out _ (by assumption)).mono ?_
             rintro e wp1 ⟨rfl, Kp1⟩
             have Sp1 := And.intro (YA.step Kp1).C (And.intro (YB.step Kp1).C (And.intro (YC.step Kp1).C (And.intro (YD.step Kp1).C Kp1))))
          | (go_at_call 14
             refine (HP3.out _ (by assumption)).mono ?_
             rintro e wp3 ⟨rfl, Kp3⟩
             have Sp3 := And.intro (YA.step Kp3).C (And.intro (YB.step Kp3).C (And.intro (YC.step Kp3).C (And.intro (YD.step Kp3).C Kp3))))
          | (have hq := Ki1
             clear hq
             go_at_call 13
             refine (HI2.out _ (by assumption)).mono ?_
             rintro e wi2 ⟨v2_, rfl, La2, hba2, Ki2⟩
             have Si2 := And.intro (YA.step Ki2).C (And.intro (YB.step Ki2).C (And.intro (YC.step Ki2).C (And.intro (YD.step Ki2).C Ki2))))
          | (go_at_call 13
             refine (HI1.out _ (by assumption)).mono ?_
             rintro e wi1 ⟨A1_, c1_, rfl, Ki1⟩
             have Si1 := And.intro (YA.step Ki1).C (And.intro (YB.step Ki1).C (And.intro (YC.step Ki1).C (And.intro (YD.step Ki1).C Ki1))))
          | (go_at_call 16
             refine (HJ2.out _ (by assumption)).mono ?_
             rintro e wj2 ⟨v3_, rfl, Lb2, hbb2, Kj2⟩
             have Sj2 := And.intro (YA.step Kj2).C (And.intro (YB.step Kj2).C (And.intro (YC.step Kj2).C (And.intro (YD.step Kj2).C Kj2))))
          | (go_at_call 15
             refine (likeInts_same _ _ _ _ (La2.go hbb2) Lb2 HL1.out).mono ?_
             rintro e wc2 ⟨rfl, hbc2⟩
             have Kc2 := Kj2.trans (hbc2.mono Kj2.size)
             have Sc2 := And.intro (YA.step Kc2).C (And.intro (YB.step Kc2).C (And.intro (YC.step Kc2).C (And.intro (YD.step Kc2).C Kc2)))))
      go_wp2_with fail
      go_meet
      exact ⟨rfl, Kc2⟩
    case rest =>
      obtain ⟨rfl, KC⟩ := hcut
      clear S7 S8 K7 K8 HP1 HP2 HP3 HI1 HI2 HJ2 HL1 hqn hsn HL YC YD
      replace YA := YA.step KC
      replace YB := YB.step KC
      replace Os := Os.below KC
      clear KC
      have S1 := Os.mslv
      clear Os
      have hm5 : s0.mnts.length ≤ 5 := by rw [HF5.out]; exact b2
      go_wp2_with fail
      go_loopw [7] (fun v7 wr => ∃ k : Nat, k ≤ s0.mnts.length ∧ v7 = .int .i64 k ∧ Own w wr w3.heap.size (planC V0 V1 V2 V3 d.n0 C0 d.n1 C1 d.n2 C2 d.n3 C3 d.l d.p d.t) ∧ Own w wr w5.heap.size (stC E0 E1 E2 E3 s0.pods.length k0 s0.mnts.length k1 s0.devs.length k2 s0.lks.length k3 0 false s0.ck s0.bo s0.ba s0.lb s0.gd s0.pr) ∧ SlV wr wr.heap.size 2 E1 s0.mnts.length (mntCs s0.mnts)) (fun v7 _ => s0.mnts.length - (intOf v7).toNat)
      case atStart => exact ⟨0, Nat.zero_le _, rfl, YA, YB, S1⟩
      case round =>
        clear YA YB S1
        obtain ⟨k, hk, rfl, YA, YB, S1⟩ := hrel
        have hA := YA.C
        have hB_ := YB.C
        by_cases hlt : k < s0.mnts.length
        · obtain ⟨b, off, rfl, hm⟩ := mnt_held S1 rfl (fun i hi => HF7.out i (by rw [← HF5.out]; exact hi)) hlt
          go_wp2_with fail
          exact ⟨⟨k + 1, by omega, by go_num, YA, YB, S1⟩, by simp [intOf]; omega⟩
        · obtain rfl : k = s0.mnts.length := by omega
          have hend := YA.K
          clear S1 hlt hk
          go_wp2_with fail
          go_loopw [8] (fun v8 wr => ∃ k : Nat, k ≤ 9 ∧ v8 = .int .i64 (-1 + k) ∧ Own w wr w3.heap.size (planC V0 V1 V2 V3 d.n0 C0 d.n1 C1 d.n2 C2 d.n3 C3 d.l d.p d.t) ∧ Own w wr w5.heap.size (stC E0 E1 E2 E3 s0.pods.length k0 s0.mnts.length k1 s0.devs.length k2 s0.lks.length k3 0 false s0.ck s0.bo s0.ba s0.lb s0.gd s0.pr)) (fun v8 _ => 9 - (intOf v8 + 1).toNat)
          case atStart => exact ⟨0, Nat.zero_le _, rfl, YA, YB⟩
          case round =>
            clear YA YB hA hB_ hend
            obtain ⟨k, hk, rfl, YA, YB⟩ := hrel
            have hA := YA.C
            have hB_ := YB.C
            by_cases hlt : k < 9
            · go_wp2_with fail
              refine (implAlive_any _ _).mono ?_
              rintro e wy ⟨rfl, rfl⟩
              go_wp2_with fail
              refine (alive_any _ _).mono ?_
              rintro e wz ⟨rfl, rfl⟩
              generalize aliveB (-1 + (k : Int)) = ans
              go_wp2_with fail
              exact ⟨⟨k + 1, by omega, by go_num, YA, YB⟩, by simp [intOf]; omega⟩
            · obtain rfl : k = 9 := by omega
              have hend := YA.K
              have hle := HF5.out
              go_wp2_with fail
              go_ret
              exact ⟨ret_bool (by simp), hend⟩
end Go.Proofs.YtdkmhaghnfhajaaGreat
/- Zq -/
set_option linter.unusedVariables false
namespace Go.Proofs.YtdkmhaghnfhajaaGreat
open Go.ChangeShapes Go.WideShapes Go.ChangeAt Go.RowKit Go.Deep

theorem lawStates (A : Option Addr) (n c : Nat) (w : World) (hB : Bytes w w.heap.size A n) (hn : n ≤ maxLen) : Calls Tryz.prog 3 #[.slice A n c] w fun e w' => e = .returned (.bool true) ∧ Below w.heap.size w w' :=
  lawStates_of (Lib.hid scheme_any) A n c w hB hn

namespace lawStatesRow
set_option maxRecDepth 100000 in
theorem contract (H : Type) (enc : TypeId × Value → H) (W : World) (base : Nat) (args : Array Value) (ds gs : List (DataW H)) (before : List MemPlace)
    (hval : ∀ (j : Nat) t v, Tryz.f3.params[j]? = some t → args[j]? = some v → Value.okWide Tryz.prog W .any base t v)
    (hW : DataW.Whole enc Tryz.prog Tryz.f3.params.toList Rows.fnStatesSpec.vars false W args.toList ds gs before) :
    Calls Tryz.prog 3 args W fun e W' => ∃ v, e = .returned v ∧ Rows.fnStatesSpec.post enc Tryz.prog Tryz.f3 false true false false W args v W' := by
  have hW' := hW
  obtain ⟨p, q, hA0, hV, rfl, hfz, hnd⟩ := hW
  have hA : DataW.TrodAll enc Tryz.prog W 0 (fun _ => true) true Tryz.f3.params.toList args.toList ds p := hA0
  rw [Tryz.params3] at hA hval
  obtain ⟨v0, d0, rfl, rfl, h0⟩ := trodAll_one hA
  obtain ⟨rfl, rfl⟩ := trodVars_none hV
  obtain ⟨A, n, c, rfl, hn, hB⟩ := open_bytes (hval 0 22 v0 rfl rfl) h0
  clear hA0
  simp only [List.append_nil] at hW'
  have hlt : ∀ x ∈ p, x.block < W.heap.size := fun x hx => by simpa using hW'.lt x hx
  refine (lawStates A n c W hB hn).mono fun e W' ⟨he, K⟩ => ?_
  subst he
  refine ⟨_, rfl, ⟨_, _, _, [], p, [], hW', ?_, ?_, ?_, K.frame _, fun h => by cases h⟩⟩
  · exact trodAll_mk1 (shut_bool Tryz.underlying4 _)
  · exact trodAll_mk1 (Below.trod laid_ (by kernel_rfl) (of_decide_eq_true (by kernel_rfl)) h0 K hlt)
  · exact rfl

set_option maxRecDepth 100000 in
theorem lifted (os : Os) (started : os.Started) (H : Type) (enc : TypeId × Value → H) :
    ReturnsInHanded {} Tryz.checked os 3 .any (Rows.fnStatesSpec.pre6 enc Tryz.prog Tryz.f3 Rows.fnStatesRow.domain false) (Rows.fnStatesSpec.post enc Tryz.prog Tryz.f3 false true false false) := by
  refine returnsInHanded_of_change (C := Tryz.checked) (s := Rows.fnStatesSpec) own_ started (by kernel_rfl) Tryz.func3
    (ChangeSpec.witness6 (enc := enc) (C := Tryz.checked) (s := Rows.fnStatesSpec) false ⟨#[], #[.slice none 0 0], []⟩ 8 (by kernel_rfl) (by kernel_rfl) (by kernel_rfl) (by kernel_rfl)) ?_
  intro W base args ds gs before hval hW _ _
  exact contract H enc W base args ds gs before hval hW
end lawStatesRow

theorem fnStates_holds : Rows.FnStatesSaid :=
  OpenClaim.holds_of_wide 3 Tryz.f3 rfl rfl rfl rfl rfl rfl rfl ⟨rfl, rfl, rfl, rfl, rfl⟩ rfl rfl rfl rfl rfl (by kernel_rfl) Tryz.func3 (by kernel_rfl)
    (of_decide_eq_true (by kernel_rfl)) (by unfold Func.isWrapper; first | (rw [if_pos (by decide +kernel)]; kernel_rfl) | (rw [if_neg (by decide +kernel)]; exact ⟨rfl, rfl⟩))
    (fun os started H enc _ => lawStatesRow.lifted os started H enc)
#print axioms fnStates_holds
end Go.Proofs.YtdkmhaghnfhajaaGreat
