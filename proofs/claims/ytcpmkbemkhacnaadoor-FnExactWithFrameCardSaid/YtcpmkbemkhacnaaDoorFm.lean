/-
  The walk of the law of WithFrame.
-/
import Derived.Test.YtcpmkbemkhacnaaDoorCh
import Derived.Test.YtcpmkbemkhacnaaDoorFk
import Derived.Test.YtcpmkbemkhacnaaDoorFl
set_option linter.unusedVariables false
namespace Go.Proofs.YtcpmkbemkhacnaaDoor
open Go.RowKit

theorem withD_small {b : List Nat} {l : List RecD} {m : Nat} (h : b.length ≤ m) (hm : 1200 ≤ m) : (withD b l).length ≤ m := by
  cases hw : withOk b l
  · rw [withD_no hw]; exact h
  · rw [withD_yes hw]
    have := framesN_le b
    simp [withOk] at hw
    rw [List.length_append, List.length_take]
    omega

set_option maxRecDepth 100000 in
set_option maxHeartbeats 4000000 in
theorem lawWithFrame (v : Value) (b : List Nat) (A : Option Addr) (n c : Nat) (x : Nat → Int) (w : World) (hN : Names w) (hb : Bt w w.heap.size v b) (s : Sl w w.heap.size 3 A n x) (hm : n ≤ maxLen) :
    Calls Tryd.prog 7 #[v, .slice A n c] w fun e w' => e = .returned (.bool true) ∧ Below w.heap.size w w' := by
  have HN := Lib.hid hN
  have SB := Lib.hid hb
  have S := Lib.hid s
  have HM := Lib.hid hm
  obtain ⟨⟨Ab, cb, rfl, -, -⟩, hmb, -⟩ := hb
  have hmb' : b.length ≤ 2 ^ 63 - 1 := by unfold maxLen at hmb; omega
  clear hN s hm hmb
  generalize hqb : b.length = nb at *
  have HQB := Lib.hid hqb
  clear hqb
  by_cases hszb : nb ≤ 1048576
  · have hszb' : (nb : Int) ≤ 1048576 := by omega
    have HLL : Hid (b.length ≤ 1048576) := Lib.hid (by rw [HQB.out]; exact hszb)
    have H4 : Hid (b.length ≤ 4194304) := Lib.hid (Nat.le_trans HLL.out (by decide))
    go_enter Tryd.func7, Tryd.ntmps7
    go_wp2_with fail
    refine (szRecS_any A n c 1048576 w HM.out (by decide) (by decide)).mono ?_
    rintro e w' ⟨rfl, rfl⟩
    by_cases hsz : n ≤ 1048576
    · have e0 : szI 1048576 n = 1048576 - n := szI_pos (by omega)
      rw [e0]
      clear e0
      have hsz' : (n : Int) ≤ 1048576 := by omega
      go_wp2_with fail
      -- the model's answer
      refine (toByteS_any _ b w SB.out HLL.out).mono ?_
      rintro e w0 ⟨g0, rfl, -, -, -, R0, K⟩
      go_wp2_with fail
      refine (toRecS_any A n c x w0 ((S.out.below K (Nat.le_refl _)).more K.size) hsz).mono ?_
      intro e w1 hmade
      obtain ⟨g9, rfl, -, -, -, R1, K1⟩ := hmade.rt HM.out
      clear hmade
      generalize hl : recsFrom n x = l at *
      replace R0 := R0.go K1
      replace K := K.trans (K1.mono K.size)
      clear K1
      go_wp2_with fail
      refine (specWithFrame_any _ _ b l w1 R0 R1 (.inr ⟨_, _, _, rfl⟩) H4.out).mono ?_
      rintro e w2 ⟨v0, rfl, O0, K2⟩
      have B0 := O0.bt
      replace K := K.trans (K2.mono K.size)
      clear R0 R1 K2 O0
      have hlm : (withD b l).length ≤ 1048576 := withD_small HLL.out (by decide)
      generalize hL : withD b l = L at *
      have HL := Lib.hid hL
      have hlm' : (L.length : Int) ≤ 1048576 := by omega
      clear hL
      generalize hk : withOk b l = ok at *
      have HOK := Lib.hid hk
      clear hk
      have hβ : w.heap.size ≤ w2.heap.size := K.size
      generalize hβ2 : w2.heap.size = β at *
      have HB2 := Lib.hid hβ2
      clear hβ2
      go_wp2_with fail
      -- the arguments of the program's call
      refine (toByteS_any _ b w2 ((SB.out.below K (Nat.le_refl _)).more K.size) HLL.out).mono ?_
      rintro e w3 ⟨g1, rfl, hg1, hg1z, U0, R0, K3⟩
      replace B0 := B0.below K3 (by rw [HB2.out]; exact Nat.le_refl _)
      replace K := K.trans (K3.mono K.size)
      rw [HB2.out] at hg1
      have hs3 : β ≤ w3.heap.size := by have := K3.size; rw [HB2.out] at this; exact this
      clear K3
      generalize hβ9 : w3.heap.size = β9 at *
      have HB9 := Lib.hid hβ9
      clear hβ9
      go_wp2_with fail
      refine (toRecS_any A n c x w3 ((S.out.below K (Nat.le_refl _)).more K.size) hsz).mono ?_
      intro e w3b hmade
      obtain ⟨g2, rfl, hg2, hg2z, F1, R1, K3⟩ := hmade.rt HM.out
      rw [hl] at R1
      rw [HB9.out] at hg2
      replace U0 := U0.below K3 (by rw [HB9.out]; exact hg1z)
      replace B0 := B0.below K3 (by rw [HB9.out]; exact hs3)
      replace R0 := R0.below K3 (by rw [HB9.out]; exact Nat.le_refl _)
      replace K := K.trans (K3.mono K.size)
      have hs3b : β9 ≤ w3b.heap.size := by have := K3.size; rw [HB9.out] at this; exact this
      replace R0 := R0.more hs3b
      clear hmade K3
      go_wp2_with fail
      refine (withFrame_any _ _ b l w3b (HN.out.go K) R0 R1 (.inr ⟨_, _, _, rfl⟩) H4.out).mono ?_
      rintro e w4 ⟨v1, rfl, O1, K4⟩
      rw [HL.out] at O1
      rw [HOK.out]
      replace U0 := U0.below K4 (by omega)
      replace F1 := F1.below K4 hg2z
      replace B0 := B0.below K4 (by omega)
      replace K := K.trans (K4.mono K.size)
      replace R0 := R0.go K4
      replace R1 := R1.go K4
      have hs4 := K4.size
      generalize hβ3 : w3b.heap.size = β3 at *
      have HB3 := Lib.hid hβ3
      clear K4 hβ3
      go_wp2_with fail
      refine (eqByteS_same v1 v0 L w4 O1.bt (B0.more (by omega))).mono ?_
      rintro e w5 ⟨rfl, hb⟩
      replace U0 := U0.below hb (by omega)
      replace F1 := F1.below hb (by omega)
      replace B0 := B0.below hb (by omega)
      replace K := K.trans (hb.mono K.size)
      replace R0 := R0.go hb
      replace R1 := R1.go hb
      replace O1 := O1.below hb
      have hs5 : β3 ≤ w5.heap.size := Nat.le_trans hs4 hb.size
      clear hb hs4
      go_wp2_with fail
      -- the arguments are as they were
      refine (toByteS_any _ b w5 ((SB.out.below K (Nat.le_refl _)).more K.size) HLL.out).mono ?_
      rintro e w6 ⟨g3, rfl, -, -, -, R2, hb⟩
      replace U0 := U0.below hb (by omega)
      replace F1 := F1.below hb (by omega)
      replace B0 := B0.below hb (by omega)
      replace K := K.trans (hb.mono K.size)
      replace R0 := R0.go hb
      replace R1 := R1.go hb
      replace O1 := O1.below hb
      have hs6 : β3 ≤ w6.heap.size := Nat.le_trans hs5 hb.size
      clear hb hs5
      go_wp2_with fail
      refine (eqByteS_same _ _ b w6 R0 R2).mono ?_
      rintro e w7 ⟨rfl, hb⟩
      replace U0 := U0.below hb (by omega)
      replace F1 := F1.below hb (by omega)
      replace B0 := B0.below hb (by omega)
      replace K := K.trans (hb.mono K.size)
      replace R1 := R1.go hb
      replace O1 := O1.below hb
      have hs7 : β3 ≤ w7.heap.size := Nat.le_trans hs6 hb.size
      clear hb hs6 R0 R2
      go_wp2_with fail
      refine (toRecS_any A n c x w7 ((S.out.below K (Nat.le_refl _)).more K.size) hsz).mono ?_
      intro e w7b hmade
      obtain ⟨g4, rfl, -, -, -, R2, hb⟩ := hmade.rt HM.out
      rw [hl] at R2
      replace U0 := U0.below hb (by omega)
      replace F1 := F1.below hb (by omega)
      replace B0 := B0.below hb (by omega)
      replace K := K.trans (hb.mono K.size)
      replace R1 := R1.go hb
      replace O1 := O1.below hb
      have hs7b : β3 ≤ w7b.heap.size := Nat.le_trans hs7 hb.size
      clear hb hs7 hmade
      go_wp2_with fail
      refine (eqRecS_same _ _ l w7b R1 R2).mono ?_
      rintro e w8 ⟨rfl, hb⟩
      replace U0 := U0.below hb (by omega)
      replace F1 := F1.below hb (by omega)
      replace B0 := B0.below hb (by omega)
      replace K := K.trans (hb.mono K.size)
      replace O1 := O1.below hb
      have hs8 : β3 ≤ w8.heap.size := Nat.le_trans hs7b hb.size
      clear hb hs7b R1 R2
      go_wp2_with fail
      -- the arguments are marked
      refine (markByteS_any _ b.length b.length g1 1 _ w8 (fun _ => rfl) U0 HLL.out (by omega) (by omega)).mono ?_
      rintro e w9 ⟨rfl, -, hk⟩
      replace F1 : RowF w9 g2 (n * 3) x := fun j hj => ⟨(hk.cell (p := ⟨g2, j, none⟩) (by show g2 < w8.heap.size; omega) (by show ¬ g2 = g1; omega)).trans (F1 j hj).1, (hk.frozen (p := ⟨g2, j, none⟩) (by show g2 < w8.heap.size; omega) (by show ¬ g2 = g1; omega)).trans (F1 j hj).2⟩
      replace B0 := B0.keeps hk (by omega) (by rintro b hb rfl; omega)
      replace O1 := O1.keeps hk (by rintro r hr rfl; omega)
      replace K := K.trans (hk.below (B := w.heap.size) K.size (by rintro b hb rfl; omega))
      have hs9 : β3 ≤ w9.heap.size := Nat.le_trans hs8 hk.size
      clear hk hs8 U0
      rw [HQB.out]
      go_wp2_with fail
      refine (markRecS_any _ n n g2 (1 + (nb : Int)) x w9 (fun _ => rfl) F1 hsz (by omega) (by omega)).mono ?_
      rintro e w10 ⟨rfl, -, hk⟩
      replace B0 := B0.keeps hk (by omega) (by rintro b hb rfl; omega)
      replace O1 := O1.keeps hk (by rintro r hr rfl; omega)
      replace K := K.trans (hk.below (B := w.heap.size) K.size (by rintro b hb rfl; omega))
      have hs10 : β3 ≤ w10.heap.size := Nat.le_trans hs9 hk.size
      have hk0 : ¬ ((1 : Int) + (nb : Int) + 3 * (n : Int) < 0) := by omega
      clear hk hs9 F1
      go_wp2_with fail
      refine (eqByteS_same v1 v0 L w10 O1.bt (B0.more (by omega))).mono ?_
      rintro e w11 ⟨rfl, hb⟩
      replace B0 := B0.below hb (by omega)
      replace K := K.trans (hb.mono K.size)
      replace O1 := O1.below hb
      have hs11 : β3 ≤ w11.heap.size := Nat.le_trans hs10 hb.size
      clear hb hs10 hk0
      go_wp2_with fail
      -- the answer is marked
      obtain ⟨A1, c1, s1, rfl, hA1, hB1, hz1, U1⟩ := O1.openU
      have HA1 := Lib.hid hA1
      have HZ1 := Lib.hid hz1
      clear O1 hA1 hz1
      refine (markByteS_any A1 L.length c1 s1 1 _ w11 HA1.out U1 hlm (by omega) (by omega)).mono ?_
      rintro e w12 ⟨rfl, U1, hk⟩
      replace B0 := B0.keeps hk (by omega) (by rintro b hb rfl; omega)
      replace K := K.trans (hk.below (B := w.heap.size) K.size (by rintro b hb rfl; omega))
      replace HZ1 := Lib.hid (fun h => Nat.lt_of_lt_of_le (HZ1.out h) hk.size)
      have hs12 : β3 ≤ w12.heap.size := Nat.le_trans hs11 hk.size
      clear hk hs11
      go_wp2_with fail
      refine (heldByteS_any A1 L.length c1 s1 1 w12 HA1.out U1 hlm (by omega) (by omega)).mono ?_
      rintro e w13 ⟨rfl, hb⟩
      replace B0 := B0.below hb (by omega)
      replace K := K.trans (hb.mono K.size)
      replace U1 := U1.go HZ1.out hb
      replace HZ1 := Lib.hid (fun h => Nat.lt_of_lt_of_le (HZ1.out h) hb.size)
      have hs13 : β3 ≤ w13.heap.size := Nat.le_trans hs12 hb.size
      have hm0 : ¬ ((1 : Int) + (L.length : Int) < 0) := by omega
      clear hb hs12
      go_wp2_with fail
      -- once more, of other copies
      refine (toByteS_any _ b w13 ((SB.out.below K (Nat.le_refl _)).more K.size) HLL.out).mono ?_
      rintro e w14 ⟨g5, rfl, -, -, -, R0, hb⟩
      replace B0 := B0.below hb (by omega)
      replace K := K.trans (hb.mono K.size)
      replace U1 := U1.go HZ1.out hb
      replace HZ1 := Lib.hid (fun h => Nat.lt_of_lt_of_le (HZ1.out h) hb.size)
      have hs14 : β3 ≤ w14.heap.size := Nat.le_trans hs13 hb.size
      clear hb hs13
      go_wp2_with fail
      refine (toRecS_any A n c x w14 ((S.out.below K (Nat.le_refl _)).more K.size) hsz).mono ?_
      intro e w15 hmade
      obtain ⟨g6, rfl, -, -, -, R3, hb⟩ := hmade.rt HM.out
      rw [hl] at R3
      replace B0 := B0.below hb (by omega)
      replace K := K.trans (hb.mono K.size)
      replace R0 := R0.go hb
      replace U1 := U1.go HZ1.out hb
      replace HZ1 := Lib.hid (fun h => Nat.lt_of_lt_of_le (HZ1.out h) hb.size)
      have hs15 : β3 ≤ w15.heap.size := Nat.le_trans hs14 hb.size
      clear hb hs14 hmade
      go_wp2_with fail
      refine (withFrame_any _ _ b l w15 (HN.out.go K) R0 R3 (.inr ⟨_, _, _, rfl⟩) H4.out).mono ?_
      rintro e w16 ⟨v2, rfl, O2, hb⟩
      rw [HL.out] at O2
      rw [HOK.out]
      replace B0 := B0.below hb (by omega)
      replace K := K.trans (hb.mono K.size)
      replace U1 := U1.go HZ1.out hb
      replace HZ1 := Lib.hid (fun h => Nat.lt_of_lt_of_le (HZ1.out h) hb.size)
      have hs16 : β3 ≤ w16.heap.size := Nat.le_trans hs15 hb.size
      clear hb hs15 R0 R3
      go_wp2_with fail
      refine (eqByteS_same v2 v0 L w16 O2.bt (B0.more (by omega))).mono ?_
      rintro e w17 ⟨rfl, hb⟩
      replace K := K.trans (hb.mono K.size)
      replace U1 := U1.go HZ1.out hb
      clear hb B0 O2
      go_wp2_with fail
      refine (heldByteS_any A1 L.length c1 s1 1 w17 HA1.out U1 hlm (by omega) (by omega)).mono ?_
      rintro e w18 ⟨rfl, hb⟩
      replace K := K.trans (hb.mono K.size)
      clear hb U1
      go_wp2_with fail
      go_ret
      exact ⟨rfl, K⟩
    · have e0 : szI 1048576 n = -1 := szI_neg (by omega)
      rw [e0]
      clear e0
      go_wp2_with fail
      go_ret
      exact ⟨rfl, Below.refl _ _⟩
  · have hsz' : (1048576 : Int) < nb := by omega
    go_enter Tryd.func7, Tryd.ntmps7
    go_wp2_with fail
    go_ret
    exact ⟨rfl, Below.refl _ _⟩
end Go.Proofs.YtcpmkbemkhacnaaDoor
