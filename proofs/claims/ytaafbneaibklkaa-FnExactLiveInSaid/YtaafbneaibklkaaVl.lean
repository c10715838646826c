/-
  LiveIn: the law's walk.
-/
import Derived.Test.YtaafbneaibklkaaVlA
import Derived.Test.YtaafbneaibklkaaVd
import Derived.Test.YtaafbneaibklkaaPk
import Derived.Test.YtaafbneaibklkaaPmA
import Derived.Deep.RegionHeld3
set_option linter.unusedVariables false
namespace Go.Proofs.Ytaafbneaibklkaa
open Go.RowKit

set_option maxRecDepth 100000 in
set_option maxHeartbeats 4000000 in
theorem lawLiveIn (v : Value) (s : StD) (w : World) (h : IsSt w w.heap.size v s) :
    Calls Try.prog 6 #[v] w fun e w' => e = .returned (.bool true) ∧ Below w.heap.size w w' := by
  have H := Lib.hid h
  obtain ⟨⟨E0, E1, E2, E3, k0_, k1_, k2_, k3_, rfl, -, -, -, -⟩, -, -, -, -⟩ := h
  go_enter Try.func6, Try.ntmps6
  go_wp2_with fail
  have X1 := Own.box w (stC E0 E1 E2 E3 s.pods.length k0_ s.mnts.length k1_ s.devs.length k2_ s.lks.length k3_ s.ph s.co s.ck s.bo s.ba s.lb s.gd s.pr) 32
  refine (szState_any _ s 1048576 _ ((H.out.below X1.K (Nat.le_refl _)).more X1.K.size) (by omega) (by omega)).mono ?_
  rintro e w2 ⟨rfl, hb⟩
  have X2 := X1.step hb
  have hC := X2.C
  clear hb X1
  by_cases hsz : (s.pods.length + s.mnts.length + s.devs.length + s.lks.length : Nat) ≤ (1048576 : Int)
  · have e0 : szS 1048576 s = 1048576 - (s.pods.length + s.mnts.length + s.devs.length + s.lks.length : Nat) := if_pos hsz
    have l2 : 0 ≤ szS 1048576 s := by omega
    have hfit : StFits s 1048576 := ⟨by omega, by omega, by omega, by omega⟩
    have F := Lib.hid hfit
    have TS : totS s ≤ 6291456 := by unfold totS; obtain ⟨f0, f1, f2, f3⟩ := hfit; omega
    clear e0 hsz hfit
    generalize szS 1048576 s = left2 at *
    go_wp2_with fail
    refine (toState_any _ s _ ((H.out.below X2.K (Nat.le_refl _)).more X2.K.size) F.out).mono ?_
    rintro e w3 ⟨g0, g1, g2, g3, rfl, N3, hb⟩
    have X3 := X2.step hb
    have P3 := Lib.hid (N3.is F.out)
    clear hb X2 hC N3
    have hC := X3.C
    go_wp2_with fail
    -- the model's answer
    refine (specLiveIn_any _ s _ P3.out F.out.f0).mono ?_
    rintro e w4 ⟨v0, rfl, O0, hb⟩
    have X4 := X3.step hb
    have HL : Hid ((liveL s).length ≤ 1048576) := Lib.hid (Nat.le_trans (liveL_le s) F.out.f0)
    obtain ⟨L, hLe⟩ : ∃ L, liveL s = L := ⟨_, rfl⟩
    rw [hLe] at O0 HL
    have HLe := Lib.hid hLe
    clear hLe
    obtain ⟨D0, r0, s0, rfl, a0D, a0B, a0z, R0⟩ := open_list O0
    have a0D := Lib.hid a0D
    have a0z := Lib.hid a0z
    clear hb X3 hC P3 O0 a0B
    have hC := X4.C
    go_wp2_with fail
    refine (toState_any _ s _ ((H.out.below X4.K (Nat.le_refl _)).more X4.K.size) F.out).mono ?_
    rintro e w5 ⟨a0, a1, a2, a3, rfl, N5, hb⟩
    have X5 := X4.step hb
    have R0 := R0.go a0z.out hb
    have s0a : Hid (0 < L.length → s0 < a0) := Lib.hid fun hl => Nat.lt_of_lt_of_le (a0z.out hl) N5.l0
    have a0z : Hid (0 < L.length → s0 < w5.heap.size) := Lib.hid fun hl => Nat.lt_of_lt_of_le (a0z.out hl) hb.size
    have wa0 : w.heap.size < a0 := Nat.lt_of_lt_of_le X4.z N5.l0
    clear hb X4 hC
    have hC := X5.C
    have hz := X5.z
    go_wp2_with fail
    have hb : Below w5.heap.size w5 _ := (Below.refl _ _).alloc (Nat.le_refl _) (.cells (stC (some ⟨a0, 0, none⟩) (some ⟨a1, 0, none⟩) (some ⟨a2, 0, none⟩) (some ⟨a3, 0, none⟩) s.pods.length s.pods.length s.mnts.length s.mnts.length s.devs.length s.devs.length s.lks.length s.lks.length s.ph s.co s.ck s.bo s.ba s.lb s.gd s.pr) 45)
    have X6 := X5.step hb
    have Y6 := Own.box2 X5.K (stC (some ⟨a0, 0, none⟩) (some ⟨a1, 0, none⟩) (some ⟨a2, 0, none⟩) (some ⟨a3, 0, none⟩) s.pods.length s.pods.length s.mnts.length s.mnts.length s.devs.length s.devs.length s.lks.length s.lks.length s.ph s.co s.ck s.bo s.ba s.lb s.gd s.pr) 45
    have N6 := N5.rows.go hb
    have R0 := R0.go a0z.out hb
    have a0z : Hid (0 < L.length → s0 < (w5.alloc (.cells (stC (some ⟨a0, 0, none⟩) (some ⟨a1, 0, none⟩) (some ⟨a2, 0, none⟩) (some ⟨a3, 0, none⟩) s.pods.length s.pods.length s.mnts.length s.mnts.length s.devs.length s.devs.length s.lks.length s.lks.length s.ph s.co s.ck s.bo s.ba s.lb s.gd s.pr) 45)).heap.size) := Lib.hid fun hl => Nat.lt_of_lt_of_le (a0z.out hl) hb.size
    have a3g : a3 < w5.heap.size := N5.l4
    clear X5 hC hb
    generalize hw6 : w5.alloc (.cells (stC (some ⟨a0, 0, none⟩) (some ⟨a1, 0, none⟩) (some ⟨a2, 0, none⟩) (some ⟨a3, 0, none⟩) s.pods.length s.pods.length s.mnts.length s.mnts.length s.devs.length s.devs.length s.lks.length s.lks.length s.ph s.co s.ck s.bo s.ba s.lb s.gd s.pr) 45) = w6 at X6 Y6 N6 R0 a0z ⊢
    generalize hg : w5.heap.size = g at Y6 hz a3g ⊢
    have N5l := N5.l0
    have a0a3 : a0 < a3 := Nat.lt_trans N5.l1 (Nat.lt_trans N5.l2 N5.l3)
    have a01 := N5.l1
    have a12 := N5.l2
    have a23 := N5.l3
    clear hw6 hg N5
    have P6 := Lib.hid (N6.is F.out)
    refine (implLiveIn_any _ s _ P6.out F.out.f0).mono ?_
    rintro e w7 ⟨v1, rfl, O1, hb⟩
    rw [HLe.out] at O1
    obtain ⟨D1, k1, s1, rfl, a1D, a1B, a1z, R1⟩ := open_list O1
    have a1D := Lib.hid a1D
    have a1z := Lib.hid a1z
    have X7 := X6.step hb
    have Y7 := Y6.step hb
    have N7 := N6.go hb
    have R0 := R0.go a0z.out hb
    have a0z : Hid (0 < L.length → s0 < w7.heap.size) := Lib.hid fun hl => Nat.lt_of_lt_of_le (a0z.out hl) hb.size
    have gs1 : g < s1 := Nat.lt_of_lt_of_le Y6.z a1B
    have HLm : Hid (L.length ≤ maxLen) := by have := HL.out; exact Lib.hid (by unfold maxLen; omega)
    clear hb X6 Y6 N6 P6 O1 a1B
    go_wp2_with fail
    -- the answers are one
    refine (eqInt64S_same _ _ _ _ _ _ _ (row_sl a1D.out a1z.out R1) (row_sl a0D.out a0z.out R0) HLm.out).mono ?_
    rintro e w8 ⟨rfl, hb⟩
    have X8 := X7.step hb
    have Y8 := Y7.step hb
    have N8 := N7.go hb
    have R0 := R0.go a0z.out hb
    have R1 := R1.go a1z.out hb
    have a0z : Hid (0 < L.length → s0 < w8.heap.size) := Lib.hid fun hl => Nat.lt_of_lt_of_le (a0z.out hl) hb.size
    have a1z : Hid (0 < L.length → s1 < w8.heap.size) := Lib.hid fun hl => Nat.lt_of_lt_of_le (a1z.out hl) hb.size
    have P8 := Lib.hid (N8.is F.out)
    clear hb X7 Y7 N7
    have hC := X8.C
    have hD := Y8.C
    go_wp2_with fail
    -- the argument is as it was
    have S8 : (∀ o, w8.cell? ⟨w.heap.size, o, none⟩ = (stC E0 E1 E2 E3 s.pods.length k0_ s.mnts.length k1_ s.devs.length k2_ s.lks.length k3_ s.ph s.co s.ck s.bo s.ba s.lb s.gd s.pr)[o]?) ∧ (∀ o, w8.cell? ⟨g, o, none⟩ = (stC (some ⟨a0, 0, none⟩) (some ⟨a1, 0, none⟩) (some ⟨a2, 0, none⟩) (some ⟨a3, 0, none⟩) s.pods.length s.pods.length s.mnts.length s.mnts.length s.devs.length s.devs.length s.lks.length s.lks.length s.ph s.co s.ck s.bo s.ba s.lb s.gd s.pr)[o]?) ∧ Below w8.heap.size w8 w8 := ⟨hC, hD, Below.refl _ _⟩
    clear hC hD
    go_region_held3 (fun w' => (∀ o, w'.cell? ⟨w.heap.size, o, none⟩ = (stC E0 E1 E2 E3 s.pods.length k0_ s.mnts.length k1_ s.devs.length k2_ s.lks.length k3_ s.ph s.co s.ck s.bo s.ba s.lb s.gd s.pr)[o]?) ∧ (∀ o, w'.cell? ⟨g, o, none⟩ = (stC (some ⟨a0, 0, none⟩) (some ⟨a1, 0, none⟩) (some ⟨a2, 0, none⟩) (some ⟨a3, 0, none⟩) s.pods.length s.pods.length s.mnts.length s.mnts.length s.devs.length s.devs.length s.lks.length s.lks.length s.ph s.co s.ck s.bo s.ba s.lb s.gd s.pr)[o]?) ∧ Below w8.heap.size w8 w')
      (first | exact S8 | exact S9 | exact S10 | (exact ⟨S8.1, S8.2.1, S8.2.2.drew⟩))
      (first
        | (go_at_call 11
           have K9 : Below w8.heap.size w8 w8.drew := (Below.refl _ _).drew
           refine (toState_any _ s _ ((H.out.below (X8.step K9).K (Nat.le_refl _)).more (X8.step K9).K.size) F.out).mono ?_
           rintro e w9 ⟨z0, z1, z2, z3, rfl, N9, hb9⟩
           have K10 : Below w8.heap.size w8 w9 := K9.trans hb9
           have P9 := Lib.hid (N9.is F.out)
           have S9 := And.intro (X8.step K10).C (And.intro (Y8.step K10).C K10))
        | (go_at_call 14
           refine (eqState_same _ _ s _ ((P8.out.below K10 (Nat.le_refl _)).more K10.size) P9.out).mono ?_
           rintro e w10 ⟨rfl, hb10⟩
           have K11 : Below w8.heap.size w8 w10 := K10.trans (hb10.mono K10.size)
           have S10 := And.intro (X8.step K11).C (And.intro (Y8.step K11).C K11)))
    have X10 := X8.step K11
    have Y10 := Y8.step K11
    have N10 := N8.go K11
    have R0 := R0.go a0z.out K11
    have R1 := R1.go a1z.out K11
    have a0z : Hid (0 < L.length → s0 < w10.heap.size) := Lib.hid fun hl => Nat.lt_of_lt_of_le (a0z.out hl) K11.size
    have a1z : Hid (0 < L.length → s1 < w10.heap.size) := Lib.hid fun hl => Nat.lt_of_lt_of_le (a1z.out hl) K11.size
    clear S8 S9 S10 K9 K10 K11 hb9 hb10 N8 N9 P8 P9 X8 Y8
    rename_i hHeld
    clear hHeld
    have hC := X10.C
    have hD := Y10.C
    go_wp2_with fail
    -- the argument is marked
    refine (markState_any _ s a0 a1 a2 a3 1 _ N10 F.out (by omega) (by omega)).mono ?_
    rintro e w11 ⟨rfl, -, hk⟩
    have X11 := X10.keeps hk (by rintro b (rfl | rfl | rfl | rfl) <;> omega) (by rintro (h | h | h | h) <;> omega)
    have R0 := R0.goK a0z.out hk (fun hl => by have := s0a.out hl; rintro (h | h | h | h) <;> omega)
    have R1 := R1.goK a1z.out hk (fun _ => by rintro (h | h | h | h) <;> omega)
    have a0z : Hid (0 < L.length → s0 < w11.heap.size) := Lib.hid fun hl => Nat.lt_of_lt_of_le (a0z.out hl) hk.size
    have a1z : Hid (0 < L.length → s1 < w11.heap.size) := Lib.hid fun hl => Nat.lt_of_lt_of_le (a1z.out hl) hk.size
    have kk0 : ¬ ((1 : Int) + (totS s : Int) < 0) := by omega
    clear hC hD hk X10 Y10 N10
    go_wp2_with fail
    refine (eqInt64S_same _ _ _ _ _ _ _ (row_sl a1D.out a1z.out R1) (row_sl a0D.out a0z.out R0) HLm.out).mono ?_
    rintro e w12 ⟨rfl, hb⟩
    have X12 := X11.step hb
    have R0 := R0.go a0z.out hb
    have R1 := R1.go a1z.out hb
    have a0z : Hid (0 < L.length → s0 < w12.heap.size) := Lib.hid fun hl => Nat.lt_of_lt_of_le (a0z.out hl) hb.size
    have a1z : Hid (0 < L.length → s1 < w12.heap.size) := Lib.hid fun hl => Nat.lt_of_lt_of_le (a1z.out hl) hb.size
    clear hb X11 kk0
    go_wp2_with fail
    -- the answer is marked
    refine (markInt64S_any _ _ _ s1 1 _ _ a1D.out R1 HL.out (by omega) (by omega)).mono ?_
    rintro e w13 ⟨rfl, M1, hk⟩
    have X13 := X12.keeps hk (by rintro b rfl; omega) (by show ¬ w.heap.size = s1; omega)
    have R0 := R0.goK a0z.out hk (fun hl => by have := s0a.out hl; show ¬ s0 = s1; omega)
    have a0z : Hid (0 < L.length → s0 < w13.heap.size) := Lib.hid fun hl => Nat.lt_of_lt_of_le (a0z.out hl) hk.size
    have a1z : Hid (0 < L.length → s1 < w13.heap.size) := Lib.hid fun hl => Nat.lt_of_lt_of_le (a1z.out hl) hk.size
    clear hk X12 R1
    go_wp2_with fail
    refine (heldInt64S_any _ _ _ s1 1 _ a1D.out M1 HL.out (by omega) (by omega)).mono ?_
    rintro e w14 ⟨rfl, hb⟩
    have X14 := X13.step hb
    have R0 := R0.go a0z.out hb
    have M1 := M1.go a1z.out hb
    have a0z : Hid (0 < L.length → s0 < w14.heap.size) := Lib.hid fun hl => Nat.lt_of_lt_of_le (a0z.out hl) hb.size
    have a1z : Hid (0 < L.length → s1 < w14.heap.size) := Lib.hid fun hl => Nat.lt_of_lt_of_le (a1z.out hl) hb.size
    have n0 : ¬ ((1 : Int) + (L.length : Int) < 0) := by omega
    have hC := X14.C
    clear hb X13
    go_wp2_with fail
    -- once more, of another copy
    refine (toState_any _ s _ ((H.out.below X14.K (Nat.le_refl _)).more X14.K.size) F.out).mono ?_
    rintro e w15 ⟨z0, z1, z2, z3, rfl, N15, hb⟩
    have X15 := X14.step hb
    have R0 := R0.go a0z.out hb
    have M1 := M1.go a1z.out hb
    have a0z : Hid (0 < L.length → s0 < w15.heap.size) := Lib.hid fun hl => Nat.lt_of_lt_of_le (a0z.out hl) hb.size
    have a1z : Hid (0 < L.length → s1 < w15.heap.size) := Lib.hid fun hl => Nat.lt_of_lt_of_le (a1z.out hl) hb.size
    have P15 := Lib.hid (N15.is F.out)
    clear hC hb X14 N15
    go_wp2_with fail
    refine (implLiveIn_any _ s _ P15.out F.out.f0).mono ?_
    rintro e w16 ⟨v2, rfl, O2, hb⟩
    rw [HLe.out] at O2
    obtain ⟨D2, k2, s2, rfl, a2D, a2B, a2z, R2⟩ := open_list O2
    have a2D := Lib.hid a2D
    have a2z := Lib.hid a2z
    have X16 := X15.step hb
    have R0 := R0.go a0z.out hb
    have M1 := M1.go a1z.out hb
    have a0z : Hid (0 < L.length → s0 < w16.heap.size) := Lib.hid fun hl => Nat.lt_of_lt_of_le (a0z.out hl) hb.size
    have a1z : Hid (0 < L.length → s1 < w16.heap.size) := Lib.hid fun hl => Nat.lt_of_lt_of_le (a1z.out hl) hb.size
    clear hb X15 P15 O2 a2B
    go_wp2_with fail
    refine (eqInt64S_same _ _ _ _ _ _ _ (row_sl a2D.out a2z.out R2) (row_sl a0D.out a0z.out R0) HLm.out).mono ?_
    rintro e w17 ⟨rfl, hb⟩
    have X17 := X16.step hb
    have M1 := M1.go a1z.out hb
    have a1z : Hid (0 < L.length → s1 < w17.heap.size) := Lib.hid fun hl => Nat.lt_of_lt_of_le (a1z.out hl) hb.size
    clear hb X16
    go_wp2_with fail
    refine (heldInt64S_any _ _ _ s1 1 _ a1D.out M1 HL.out (by omega) (by omega)).mono ?_
    rintro e w18 ⟨rfl, hb⟩
    have X18 := X17.step hb
    clear hb X17
    go_wp2_with fail
    go_ret
    exact ⟨rfl, X18.K⟩
  · have e0 : szS 1048576 s = -1 := if_neg hsz
    rw [e0]
    clear e0
    go_wp2_with fail
    go_ret
    exact ⟨rfl, X2.K⟩

end Go.Proofs.Ytaafbneaibklkaa
