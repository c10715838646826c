/-
  FnBands' walk.
-/
import Derived.Test.YtmbblhnagohlhaaPwA
import Derived.Test.YtmbblhnagohlhaaSh
import Derived.Deep.RegionHeld3
set_option linter.unusedVariables false
namespace Go.Proofs.Ytmbblhnagohlhaa
open Go.RowKit

theorem drawNext_of (HA : Hid (∀ (g : Nat) (w : World), Cur 103 .i64 w g → Calls Try.prog 65 #[.pointer (some ⟨g, 0, none⟩)] w (DrawnPlan 103 .i64 (fun d => d.n0 ≤ 13 ∧ d.n1 ≤ 4 ∧ d.n2 ≤ 5 ∧ d.n3 ≤ 3) g w)))
    (A : Option Addr) (n c : Nat) (w : World) (hB : Bytes w w.heap.size A n) (hn : n ≤ 4096) : Calls Try.prog 16 #[.slice A n c] w (AtPlan w) := by
  have HB := Lib.hid hB
  clear hB
  go_enter Try.func16, Try.ntmps16
  go_wp2_with fail
  have X1 := Own.box w (planC none none none none 0 0 0 0 0 0 0 0 0 0 0) 29
  have hR1 := heap_alloc_new w (.cells (planC none none none none 0 0 0 0 0 0 0 0 0 0 0) 29)
  refine (drawAt_of HA A n c _ ((HB.out.below X1.K (Nat.le_refl _)).more X1.K.size) hn).mono ?_
  rintro e w2 ⟨v0, v1, v2, v3, d, k, rfl, L, b0, b2, hb⟩
  have X2 := X1.step hb
  have hR2 := (hb.block _ X1.z).trans hR1
  have L2 := L.base X1.K.size
  obtain ⟨V0, C0, rfl, -, -⟩ := L.o0.form
  obtain ⟨V1, C1, rfl, -, -⟩ := L.o1.form
  obtain ⟨V2, C2, rfl, -, -⟩ := L.o2.form
  obtain ⟨V3, C3, rfl, -, -⟩ := L.o3.form
  have KR := ((((((((Keeps.refl (· = w.heap.size) w2).set (p := ⟨w.heap.size, 0, none⟩) rfl (.slice V0 d.n0 C0)).set (p := ⟨w.heap.size, 1, none⟩) rfl (.slice V1 d.n1 C1)).set (p := ⟨w.heap.size, 2, none⟩) rfl (.slice V2 d.n2 C2)).set (p := ⟨w.heap.size, 3, none⟩) rfl (.slice V3 d.n3 C3)).set (p := ⟨w.heap.size, 4, none⟩) rfl (.int .i64 d.l)).set (p := ⟨w.heap.size, 5, none⟩) rfl (.int .i64 d.p)).set (p := ⟨w.heap.size, 6, none⟩) rfl (.int .i64 d.t))
  have L6 := Lib.hid (L2.keeps KR hR2 (by decide))
  have X6 := Lib.hid (X2.K.trans (KR.below X2.K.size (fun b hb e => by have e : b = w.heap.size := e; omega)))
  have r1 := X2.C
  have r2 := X2.F
  clear KR hR2 hR1 L L2 hb X1 X2
  go_wp2_with fail
  refine bodyPost_ret (v := .tuple #[.agg #[.slice V0 d.n0 C0, .slice V1 d.n1 C1, .slice V2 d.n2 C2, .slice V3 d.n3 C3, .int .i64 d.l, .int .i64 d.p, .int .i64 d.t], .int .i64 k]) ?_ rfl ⟨_, _, _, _, d, k, rfl, L6.out, b0, b2, X6.out⟩
  simp [results, Try.results16, go_sem, r1]

/-- A list made while nothing that was there turned. -/
def HeldList (w0 W : World) (L : List Int) (e : Ending) (W' : World) : Prop := ∃ v, e = .returned v ∧ Lst W' v L ∧ Below W.heap.size W W' ∧ Below w0.heap.size w0 W'
theorem HeldList.of {w0 W W' : World} {L : List Int} {e : Ending} (h : Listed W L e W') (K : Below w0.heap.size w0 W) : HeldList w0 W L e W' := by
  obtain ⟨v, he, O, hb⟩ := h
  exact ⟨v, he, Lst.of O, hb, K.trans (hb.mono K.size)⟩
set_option maxRecDepth 100000 in
set_option maxHeartbeats 4000000 in
theorem lawBands_of (HA : Hid (∀ (g : Nat) (w : World), Cur 103 .i64 w g → Calls Try.prog 65 #[.pointer (some ⟨g, 0, none⟩)] w (DrawnPlan 103 .i64 (fun d => d.n0 ≤ 13 ∧ d.n1 ≤ 4 ∧ d.n2 ≤ 5 ∧ d.n3 ≤ 3) g w)))
    (HS : Hid (∀ (g : Nat) (w : World), Cur 61 .u64 w g → Calls Try.prog 10 #[.pointer (some ⟨g, 0, none⟩)] w (DrawnPlan 61 .u64 (fun d => planOkB d = true ∧ d.n0 ≤ 6 ∧ d.n1 ≤ 3 ∧ d.n2 ≤ 5 ∧ d.n3 ≤ 3) g w)))
    (A : Option Addr) (n c : Nat) (w : World) (hB : Bytes w w.heap.size A n) (hn : n ≤ maxLen) : Calls Try.prog 3 #[.slice A n c] w fun e w' => e = .returned (.bool true) ∧ Below w.heap.size w w' := by
  have HB := Lib.hid hB
  clear hB
  go_enter Try.func3, Try.ntmps3
  go_wp2_with fail
  refine (big_any A n c _ hn).mono ?_
  rintro e w2 ⟨rfl, rfl⟩
  by_cases hbig : 4096 < (n : Int)
  · go_wp2_with fail
    go_ret
    exact ⟨rfl, Below.refl _ _⟩
  · have hn4 : n ≤ 4096 := by omega
    clear hbig
    go_wp2_with fail
    refine (roll_any A n c 3 _ HB.out hn4).mono ?_
    rintro e w2 ⟨g, rfl, hg, hc, hb⟩
    have K2 := Lib.hid hb
    clear hb
    go_wp2_with fail
    refine (HS.out g _ hc).mono ?_
    rintro e w3 ⟨v0, v1, v2, v3, d, rfl, o0, o1, o2, o3, hc3, hk, hq, b0, b1, b2, b3⟩
    have L3 : Lists w3 w2.heap.size v0 v1 v2 v3 d := ⟨o0, o1, o2, o3⟩
    have K3 := Lib.hid (K2.out.trans (hk.below (B := w.heap.size) K2.out.size (fun b hb e => by have e : b = g := e; omega)))
    have HQ := Lib.hid hq
    have h23 : w2.heap.size ≤ w3.heap.size := hk.size
    obtain ⟨V0, C0, rfl, -, -⟩ := o0.form
    obtain ⟨V1, C1, rfl, -, -⟩ := o1.form
    obtain ⟨V2, C2, rfl, -, -⟩ := o2.form
    obtain ⟨V3, C3, rfl, -, -⟩ := o3.form
    clear hk hc hc3 o0 o1 o2 o3 hq K2 HS
    go_wp2_with fail
    have hb4 : Below w3.heap.size w3 (w3.alloc (.cells (planC V0 V1 V2 V3 d.n0 C0 d.n1 C1 d.n2 C2 d.n3 C3 d.l d.p d.t) 29)) := (Below.refl _ _).alloc (Nat.le_refl _) _
    have Y := Own.box2 K3.out (planC V0 V1 V2 V3 d.n0 C0 d.n1 C1 d.n2 C2 d.n3 C3 d.l d.p d.t) 29
    have P4 := Lib.hid (L3.below hb4).plan
    clear hb4 L3 K3 h23
    generalize w3.alloc (.cells (planC V0 V1 V2 V3 d.n0 C0 d.n1 C1 d.n2 C2 d.n3 C3 d.l d.p d.t) 29) = w4 at Y P4 ⊢
    refine (implBands_any _ d _ P4.out).mono ?_
    rintro e w5 ⟨vl, rfl, O5, hb5⟩
    have Y5 := Y.step hb5
    have P5 := Lib.hid ((P4.out.below hb5 (Nat.le_refl _)).more hb5.size)
    obtain ⟨Al, cl, gl, rfl, hAl, hgl, hll, Rl⟩ := open_list O5
    have HAl := Lib.hid hAl
    have HLl := Lib.hid hll
    have HNX := Lib.hid (fun k hk => bands_next (d := d) (i := k) hk)
    have HED := Lib.hid (bands_end d)
    have HPD := Lib.hid (bands_pods HQ.out)
    have HTM := Lib.hid (bands_time HQ.out)
    have hle := bandsL_le d
    have HB1 := Lib.hid (fun k (hk : k ≤ (bandsL d).length) => sums_bound HQ.out hk)
    have HB2 : Hid (∀ k, k ≤ (bandsL d).length → 0 ≤ sumL (bandsL d) (fun b => ((podsL d b).length : Int)) k ∧ sumL (bandsL d) (fun b => ((podsL d b).length : Int)) k ≤ 36) := Lib.hid (fun k hk => by
      have h1 := sumL_bound (l := bandsL d) (g := fun b => ((podsL d b).length : Int)) (lo := 0) (hi := 6) (fun x => by have := podsL_le d x; constructor <;> omega) (by omega) k hk
      have h2 := bandsL_le d
      omega)
    have HB3 := Lib.hid (fun x => bandT_bound HQ.out x)
    have HB4 := Lib.hid (fun x => podsL_le d x)
    clear hb5 O5 hAl hgl hll P4 Y
    generalize bandsL d = L at *
    have HRl := Lib.hid Rl
    clear Rl
    go_wp2_with fail
    go_loopw [5, 6, 7, 8] (fun s5 s6 s7 s8 wr => ∃ k : Nat, k ≤ L.length ∧ s8 = .int .i64 k ∧ s7 = .int .i64 (ahead L k) ∧ s6 = .int .i64 (sumL L (bandT d) k) ∧ s5 = .int .i64 (sumL L (fun b => ((podsL d b).length : Int)) k) ∧ Below w5.heap.size w5 wr) (fun _ _ _ i _ => L.length - (intOf i).toNat)
    case atStart => exact ⟨0, Nat.zero_le _, rfl, rfl, by rw [sumL_zero], by rw [sumL_zero], Below.refl _ _⟩
    case round =>
      obtain ⟨k, hk, rfl, rfl, rfl, rfl, K⟩ := hrel
      have YK := Y5.step K
      have hC := YK.C
      have hs1 := HB1.out k hk
      have hs2 := HB2.out k hk
      by_cases hlt : k < L.length
      · obtain rfl := HAl.out (by omega)
        have HX := Lib.hid (fun W (KW : Below wr.heap.size wr W) => (HRl.out.go HLl.out (K.trans (KW.mono K.size)) k hlt).1)
        have HPW := Lib.hid (fun W (KW : Below wr.heap.size wr W) => (P5.out.below (K.trans (KW.mono K.size)) (Nat.le_refl _)).more (K.trans (KW.mono K.size)).size)
        have hx := HNX.out k hlt
        have HA1 := Lib.hid (ahead_succ L k)
        have HS1 := Lib.hid (sumL_succ (g := bandT d) hlt)
        have HS2 := Lib.hid (sumL_succ (g := fun b => ((podsL d b).length : Int)) hlt)
        have HX : Hid (∀ W, Below wr.heap.size wr W → W.cell? ⟨gl, k, none⟩ = some (.int .i64 (L.getD k 0))) := Lib.hid fun W KW => HX.out W KW
        have ht := HB3.out (L.getD k 0)
        have hp := HB4.out (L.getD k 0)
        have HT : Hid (∀ W, Below wr.heap.size wr W → Calls Try.prog 15 #[.agg #[.slice V0 d.n0 C0, .slice V1 d.n1 C1, .slice V2 d.n2 C2, .slice V3 d.n3 C3, .int .i64 d.l, .int .i64 d.p, .int .i64 d.t], .int .i64 (L.getD k 0)] W (fun e W' => e = .returned (.int .i64 (bandT d (L.getD k 0))) ∧ Below wr.heap.size wr W')) :=
          Lib.hid fun W KW => (implTime_any _ d _ W (HPW.out W KW) (by omega)).mono fun e W' ⟨h, b⟩ => ⟨h, KW.trans (b.mono KW.size)⟩
        have HP : Hid (∀ W, Below wr.heap.size wr W → Calls Try.prog 14 #[.agg #[.slice V0 d.n0 C0, .slice V1 d.n1 C1, .slice V2 d.n2 C2, .slice V3 d.n3 C3, .int .i64 d.l, .int .i64 d.p, .int .i64 d.t], .int .i64 (L.getD k 0)] W (HeldList wr W (podsL d (L.getD k 0)))) :=
          Lib.hid fun W KW => (implPods_any _ d _ W (HPW.out W KW) (by omega)).mono fun e W' h => HeldList.of h KW
        have HN1 : Hid (∀ W, Below wr.heap.size wr W → Calls Try.prog 13 #[.agg #[.slice V0 d.n0 C0, .slice V1 d.n1 C1, .slice V2 d.n2 C2, .slice V3 d.n3 C3, .int .i64 d.l, .int .i64 d.p, .int .i64 d.t], .int .i64 (ahead L k)] W (fun e W' => e = .returned (.int .i64 (L.getD k 0)) ∧ Below wr.heap.size wr W')) :=
          Lib.hid fun W KW => (implNext_any _ d _ W (HPW.out W KW)).mono fun e W' ⟨h, b⟩ => ⟨by rw [h, hx], KW.trans (b.mono KW.size)⟩
        clear hx
        generalize ahead L k = a at *
        generalize sumL L (bandT d) k = m1 at *
        generalize sumL L (fun b => ((podsL d b).length : Int)) k = m2 at *
        generalize L.getD k 0 = x at *
        have K7 : Below wr.heap.size wr wr := Below.refl _ _
        have K8 : Below wr.heap.size wr wr.drew := K7.drew
        have S7 := And.intro (YK.step K7).C (And.intro (HX.out _ K7) K7)
        have S8 := And.intro (YK.step K8).C (And.intro (HX.out _ K8) K8)
        go_wp2_with fail
        go_region_held3 (fun w' => (∀ o, w'.cell? ⟨w3.heap.size, o, none⟩ = (planC V0 V1 V2 V3 d.n0 C0 d.n1 C1 d.n2 C2 d.n3 C3 d.l d.p d.t)[o]?) ∧ w'.cell? ⟨gl, k, none⟩ = some (.int .i64 x) ∧ Below wr.heap.size wr w')
          (first | assumption)
          (first
            | (go_at_call 13
               refine (HN1.out _ (by assumption)).mono ?_
               rintro e wn ⟨rfl, Kn⟩
               have Sn := And.intro (YK.step Kn).C (And.intro (HX.out _ Kn) Kn)))
        have hCn := (YK.step Kn).C
        have hXn := HX.out _ Kn
        go_wp2_with (first
          | (go_at_call 14; refine (HP.out _ Kn).mono ?_; rintro e wp ⟨vp, rfl, Lp, hbp, Kp⟩; obtain ⟨Ap, cp, rfl, -⟩ := Lp; have hCp := (YK.step Kp).C)
          | (go_at_call 15; refine (HT.out _ Kp).mono ?_; rintro e wt ⟨rfl, Kt⟩))
        exact ⟨⟨k + 1, by omega, by go_num, by rw [HA1.out], by rw [HS1.out], by rw [HS2.out], K.trans (Kt.mono K.size)⟩, by simp [intOf]; omega⟩
      · obtain rfl : k = L.length := by omega
        have hed := HED.out
        have htm := HTM.out
        rw [HPD.out]
        generalize ahead L L.length = a at *
        generalize sumL L (bandT d) L.length = m1 at *
        generalize hwt : wholeT d = wt at htm
        have HWT := Lib.hid hwt
        have HED := Lib.hid hed
        clear hwt hed hs2 HPD HTM HNX HB1 HB2 HB3 HB4 HAl HLl HRl
        go_wp2_with fail
        refine (drawNext_of HA A n c _ ((HB.out.below YK.K (Nat.le_refl _)).more YK.K.size) hn4).mono ?_
        rintro e w6 ⟨u0, u1, u2, u3, q, at_, rfl, L6, q0, q2, hb⟩
        have Y6 := YK.step hb
        have P6 := Lib.hid ((P5.out.below (K.trans (hb.mono K.size)) (Nat.le_refl _)).more (K.trans (hb.mono K.size)).size)
        obtain ⟨U0, G0, rfl, -, -⟩ := L6.o0.form
        obtain ⟨U1, G1, rfl, -, -⟩ := L6.o1.form
        obtain ⟨U2, G2, rfl, -, -⟩ := L6.o2.form
        obtain ⟨U3, G3, rfl, -, -⟩ := L6.o3.form
        clear YK K hC hb
        go_wp2_with fail
        have hb7 : Below w6.heap.size w6 (w6.alloc (.cells (planC U0 U1 U2 U3 q.n0 G0 q.n1 G1 q.n2 G2 q.n3 G3 q.l q.p q.t) 29)) := (Below.refl _ _).alloc (Nat.le_refl _) _
        have Z7 := Own.box2 Y6.K (planC U0 U1 U2 U3 q.n0 G0 q.n1 G1 q.n2 G2 q.n3 G3 q.l q.p q.t) 29
        have Y7 := Y6.step hb7
        have P7 := Lib.hid ((P6.out.below hb7 (Nat.le_refl _)).more hb7.size)
        have Q7 := Lib.hid (L6.below hb7).plan
        clear hb7 Y6 P6 L6 Y5 P5 HB
        generalize w6.alloc (.cells (planC U0 U1 U2 U3 q.n0 G0 q.n1 G1 q.n2 G2 q.n3 G3 q.l q.p q.t) 29) = w7 at Z7 Y7 P7 Q7 ⊢
        have HP1 : Hid (∀ W, Below w7.heap.size w7 W → Calls Try.prog 13 #[.agg #[.slice V0 d.n0 C0, .slice V1 d.n1 C1, .slice V2 d.n2 C2, .slice V3 d.n3 C3, .int .i64 d.l, .int .i64 d.p, .int .i64 d.t], .int .i64 a] W (fun e W' => e = .returned (.int .i64 (-1)) ∧ Below w7.heap.size w7 W')) :=
          Lib.hid fun W K => (implNext_any _ d a W ((P7.out.below K (Nat.le_refl _)).more K.size)).mono fun e W' ⟨h, b⟩ => ⟨h.trans (by rw [HED.out]), K.trans (b.mono K.size)⟩
        have HP2 : Hid (∀ W, Below w7.heap.size w7 W → Calls Try.prog 17 #[.agg #[.slice V0 d.n0 C0, .slice V1 d.n1 C1, .slice V2 d.n2 C2, .slice V3 d.n3 C3, .int .i64 d.l, .int .i64 d.p, .int .i64 d.t]] W (fun e W' => e = .returned (.int .i64 wt) ∧ Below w7.heap.size w7 W')) :=
          Lib.hid fun W K => (implWhole_any _ d W ((P7.out.below K (Nat.le_refl _)).more K.size) (by omega)).mono fun e W' ⟨h, b⟩ => ⟨h.trans (by rw [HWT.out]), K.trans (b.mono K.size)⟩
        have HI1 : Hid (∀ W, Below w7.heap.size w7 W → Calls Try.prog 13 #[.agg #[.slice U0 q.n0 G0, .slice U1 q.n1 G1, .slice U2 q.n2 G2, .slice U3 q.n3 G3, .int .i64 q.l, .int .i64 q.p, .int .i64 q.t], .int .i64 at_] W (fun e W' => e = .returned (.int .i64 (nextL q at_)) ∧ Below w7.heap.size w7 W')) :=
          Lib.hid fun W K => (implNext_any _ q at_ W ((Q7.out.below K (Nat.le_refl _)).more K.size)).mono fun e W' ⟨h, b⟩ => ⟨h, K.trans (b.mono K.size)⟩
        have HJ1 : Hid (∀ W, Below w7.heap.size w7 W → Calls Try.prog 18 #[.agg #[.slice U0 q.n0 G0, .slice U1 q.n1 G1, .slice U2 q.n2 G2, .slice U3 q.n3 G3, .int .i64 q.l, .int .i64 q.p, .int .i64 q.t], .int .i64 at_] W (fun e W' => e = .returned (.int .i64 (nextL q at_)) ∧ Below w7.heap.size w7 W')) :=
          Lib.hid fun W K => (specNext_any _ q at_ W ((Q7.out.below K (Nat.le_refl _)).more K.size) (by omega)).mono fun e W' ⟨h, b⟩ => ⟨h, K.trans (b.mono K.size)⟩
        have HI2 : Hid (∀ W, Below w7.heap.size w7 W → Calls Try.prog 15 #[.agg #[.slice U0 q.n0 G0, .slice U1 q.n1 G1, .slice U2 q.n2 G2, .slice U3 q.n3 G3, .int .i64 q.l, .int .i64 q.p, .int .i64 q.t], .int .i64 at_] W (fun e W' => e = .returned (.int .i64 (bandT q at_)) ∧ Below w7.heap.size w7 W')) :=
          Lib.hid fun W K => (implTime_any _ q at_ W ((Q7.out.below K (Nat.le_refl _)).more K.size) (by omega)).mono fun e W' ⟨h, b⟩ => ⟨h, K.trans (b.mono K.size)⟩
        have HJ2 : Hid (∀ W, Below w7.heap.size w7 W → Calls Try.prog 19 #[.agg #[.slice U0 q.n0 G0, .slice U1 q.n1 G1, .slice U2 q.n2 G2, .slice U3 q.n3 G3, .int .i64 q.l, .int .i64 q.p, .int .i64 q.t], .int .i64 at_] W (fun e W' => e = .returned (.int .i64 (bandT q at_)) ∧ Below w7.heap.size w7 W')) :=
          Lib.hid fun W K => (specTime_any _ q at_ W ((Q7.out.below K (Nat.le_refl _)).more K.size) (by omega)).mono fun e W' ⟨h, b⟩ => ⟨h, K.trans (b.mono K.size)⟩
        have HI3 : Hid (∀ W, Below w7.heap.size w7 W → Calls Try.prog 17 #[.agg #[.slice U0 q.n0 G0, .slice U1 q.n1 G1, .slice U2 q.n2 G2, .slice U3 q.n3 G3, .int .i64 q.l, .int .i64 q.p, .int .i64 q.t]] W (fun e W' => e = .returned (.int .i64 (wholeT q)) ∧ Below w7.heap.size w7 W')) :=
          Lib.hid fun W K => (implWhole_any _ q W ((Q7.out.below K (Nat.le_refl _)).more K.size) (by omega)).mono fun e W' ⟨h, b⟩ => ⟨h, K.trans (b.mono K.size)⟩
        have HJ3 : Hid (∀ W, Below w7.heap.size w7 W → Calls Try.prog 20 #[.agg #[.slice U0 q.n0 G0, .slice U1 q.n1 G1, .slice U2 q.n2 G2, .slice U3 q.n3 G3, .int .i64 q.l, .int .i64 q.p, .int .i64 q.t]] W (fun e W' => e = .returned (.int .i64 (wholeT q)) ∧ Below w7.heap.size w7 W')) :=
          Lib.hid fun W K => (specWhole_any _ q W ((Q7.out.below K (Nat.le_refl _)).more K.size) (by omega)).mono fun e W' ⟨h, b⟩ => ⟨h, K.trans (b.mono K.size)⟩
        have HI4 : Hid (∀ W, Below w7.heap.size w7 W → Calls Try.prog 12 #[.agg #[.slice U0 q.n0 G0, .slice U1 q.n1 G1, .slice U2 q.n2 G2, .slice U3 q.n3 G3, .int .i64 q.l, .int .i64 q.p, .int .i64 q.t]] W (HeldList w7 W (bandsL q))) :=
          Lib.hid fun W K => (implBands_any _ q W ((Q7.out.below K (Nat.le_refl _)).more K.size)).mono fun e W' h => HeldList.of h K
        have HJ4 : Hid (∀ W, Below w7.heap.size w7 W → Calls Try.prog 22 #[.agg #[.slice U0 q.n0 G0, .slice U1 q.n1 G1, .slice U2 q.n2 G2, .slice U3 q.n3 G3, .int .i64 q.l, .int .i64 q.p, .int .i64 q.t]] W (HeldList w7 W (bandsL q))) :=
          Lib.hid fun W K => (specBands_any _ q W ((Q7.out.below K (Nat.le_refl _)).more K.size) (by omega)).mono fun e W' h => HeldList.of h K
        have HI5 : Hid (∀ W, Below w7.heap.size w7 W → Calls Try.prog 14 #[.agg #[.slice U0 q.n0 G0, .slice U1 q.n1 G1, .slice U2 q.n2 G2, .slice U3 q.n3 G3, .int .i64 q.l, .int .i64 q.p, .int .i64 q.t], .int .i64 at_] W (HeldList w7 W (podsL q at_))) :=
          Lib.hid fun W K => (implPods_any _ q at_ W ((Q7.out.below K (Nat.le_refl _)).more K.size) (by omega)).mono fun e W' h => HeldList.of h K
        have HJ5 : Hid (∀ W, Below w7.heap.size w7 W → Calls Try.prog 23 #[.agg #[.slice U0 q.n0 G0, .slice U1 q.n1 G1, .slice U2 q.n2 G2, .slice U3 q.n3 G3, .int .i64 q.l, .int .i64 q.p, .int .i64 q.t], .int .i64 at_] W (HeldList w7 W (podsL q at_))) :=
          Lib.hid fun W K => (specPods_any _ q at_ W ((Q7.out.below K (Nat.le_refl _)).more K.size) (by omega)).mono fun e W' h => HeldList.of h K
        have HL4 : Hid ((bandsL q).length ≤ maxLen) := Lib.hid (Nat.le_trans (bandsL_le q) (by decide))
        have HL5 : Hid ((podsL q at_).length ≤ maxLen) := Lib.hid (Nat.le_trans (podsL_le q at_) (by unfold maxLen; omega))
        generalize nextL q at_ = r1 at HI1 HJ1
        generalize bandT q at_ = r2 at HI2 HJ2
        generalize wholeT q = r3 at HI3 HJ3
        generalize bandsL q = r4 at HI4 HJ4 HL4
        generalize podsL q at_ = r5 at HI5 HJ5 HL5
        have K7 : Below w7.heap.size w7 w7 := Below.refl _ _
        have K8 : Below w7.heap.size w7 w7.drew := K7.drew
        have S7 := And.intro (Y7.step K7).C (And.intro (Z7.step K7).C K7)
        have S8 := And.intro (Y7.step K8).C (And.intro (Z7.step K8).C K8)
        clear P7 Q7
        go_region_held3 (fun w' => (∀ o, w'.cell? ⟨w3.heap.size, o, none⟩ = (planC V0 V1 V2 V3 d.n0 C0 d.n1 C1 d.n2 C2 d.n3 C3 d.l d.p d.t)[o]?) ∧ (∀ o, w'.cell? ⟨w6.heap.size, o, none⟩ = (planC U0 U1 U2 U3 q.n0 G0 q.n1 G1 q.n2 G2 q.n3 G3 q.l q.p q.t)[o]?) ∧ Below w7.heap.size w7 w')
          (first | assumption)
          (first
            | (have hq := Kp1
               clear hq
               go_at_call 13
               refine (HI1.out _ (by assumption)).mono ?_
               rintro e wi1 ⟨rfl, Ki1⟩
               have Si1 := And.intro (Y7.step Ki1).C (And.intro (Z7.step Ki1).C Ki1))
            | (go_at_call 13
               refine (HP1.out _ (by assumption)).mono ?_
               rintro e wp1 ⟨rfl, Kp1⟩
               have Sp1 := And.intro (Y7.step Kp1).C (And.intro (Z7.step Kp1).C Kp1))
            | (have hq := Kp2
               clear hq
               go_at_call 17
               refine (HI3.out _ (by assumption)).mono ?_
               rintro e wi3 ⟨rfl, Ki3⟩
               have Si3 := And.intro (Y7.step Ki3).C (And.intro (Z7.step Ki3).C Ki3))
            | (go_at_call 17
               refine (HP2.out _ (by assumption)).mono ?_
               rintro e wp2 ⟨rfl, Kp2⟩
               have Sp2 := And.intro (Y7.step Kp2).C (And.intro (Z7.step Kp2).C Kp2))
            | (go_at_call 18
               refine (HJ1.out _ (by assumption)).mono ?_
               rintro e wj1 ⟨rfl, Kj1⟩
               have Sj1 := And.intro (Y7.step Kj1).C (And.intro (Z7.step Kj1).C Kj1))
            | (go_at_call 15
               refine (HI2.out _ (by assumption)).mono ?_
               rintro e wi2 ⟨rfl, Ki2⟩
               have Si2 := And.intro (Y7.step Ki2).C (And.intro (Z7.step Ki2).C Ki2))
            | (go_at_call 19
               refine (HJ2.out _ (by assumption)).mono ?_
               rintro e wj2 ⟨rfl, Kj2⟩
               have Sj2 := And.intro (Y7.step Kj2).C (And.intro (Z7.step Kj2).C Kj2))
            | (go_at_call 20
               refine (HJ3.out _ (by assumption)).mono ?_
               rintro e wj3 ⟨rfl, Kj3⟩
               have Sj3 := And.intro (Y7.step Kj3).C (And.intro (Z7.step Kj3).C Kj3))
            | (go_at_call 12
               refine (HI4.out _ (by assumption)).mono ?_
               rintro e wi4 ⟨vi4, rfl, Li4, hbi4, Ki4⟩
               have Si4 := And.intro (Y7.step Ki4).C (And.intro (Z7.step Ki4).C Ki4))
            | (go_at_call 22
               refine (HJ4.out _ (by assumption)).mono ?_
               rintro e wj4 ⟨vj4, rfl, Lj4, hbj4, Kj4⟩
               have Mi4 := Li4.go hbj4
               have Sj4 := And.intro (Y7.step Kj4).C (And.intro (Z7.step Kj4).C Kj4))
            | (go_at_call 14
               refine (HI5.out _ (by assumption)).mono ?_
               rintro e wi5 ⟨vi5, rfl, Li5, hbi5, Ki5⟩
               have Si5 := And.intro (Y7.step Ki5).C (And.intro (Z7.step Ki5).C Ki5))
            | (go_at_call 23
               refine (HJ5.out _ (by assumption)).mono ?_
               rintro e wj5 ⟨vj5, rfl, Lj5, hbj5, Kj5⟩
               have Mi5 := Li5.go hbj5
               have Sj5 := And.intro (Y7.step Kj5).C (And.intro (Z7.step Kj5).C Kj5))
            | (have hq := Mi5
               clear hq
               go_at_call 21
               refine (likeInts_same _ _ _ _ Mi5 Lj5 HL5.out).mono ?_
               rintro e wc5 ⟨rfl, hbc5⟩
               have Kc5 := Kj5.trans (hbc5.mono Kj5.size)
               have Sc5 := And.intro (Y7.step Kc5).C (And.intro (Z7.step Kc5).C Kc5))
            | (have hq := Mi4
               clear hq
               go_at_call 21
               refine (likeInts_same _ _ _ _ Mi4 Lj4 HL4.out).mono ?_
               rintro e wc4 ⟨rfl, hbc4⟩
               have Kc4 := Kj4.trans (hbc4.mono Kj4.size)
               have Sc4 := And.intro (Y7.step Kc4).C (And.intro (Z7.step Kc4).C Kc4)))
        have hend := Y7.K.trans (Kc5.mono Y7.K.size)
        go_wp2_with fail
        go_ret
        exact ⟨rfl, hend⟩
end Go.Proofs.Ytmbblhnagohlhaa
