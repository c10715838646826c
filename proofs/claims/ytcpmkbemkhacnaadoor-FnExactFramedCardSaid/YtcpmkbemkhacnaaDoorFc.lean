/-
  The walk of the law of Framed.
-/
import Derived.Test.YtcpmkbemkhacnaaDoorCh
import Derived.Test.YtcpmkbemkhacnaaDoorFb
import Derived.Test.YtcpmkbemkhacnaaDoorEl
set_option linter.unusedVariables false
namespace Go.Proofs.YtcpmkbemkhacnaaDoor
open Go.RowKit

set_option maxRecDepth 100000 in
set_option maxHeartbeats 4000000 in
theorem lawFramed (A : Option Addr) (n c : Nat) (x : Nat → Int) (w : World) (hN : Names w) (s : Sl w w.heap.size 3 A n x) (hm : n ≤ maxLen) :
    Calls Tryd.prog 5 #[.slice A n c] w fun e w' => e = .returned (.bool true) ∧ Below w.heap.size w w' := by
  have HN := Lib.hid hN
  have S := Lib.hid s
  have HM := Lib.hid hm
  clear hN s hm
  go_enter Tryd.func5, Tryd.ntmps5
  go_wp2_with fail
  refine (szRecS_any A n c 1048576 w HM.out (by decide) (by decide)).mono ?_
  rintro e w' ⟨rfl, rfl⟩
  by_cases hsz : n ≤ 1048576
  · have e0 : szI 1048576 n = 1048576 - n := szI_pos (by omega)
    rw [e0]
    clear e0
    have hsz' : (n : Int) ≤ 1048576 := by omega
    go_wp2_with fail
    -- the model's answer
    refine (toRecS_any A n c x w S.out hsz).mono ?_
    intro e w1 hmade
    obtain ⟨g0, rfl, -, -, -, R1, K1⟩ := hmade.rt HM.out
    clear hmade
    generalize hl : recsFrom n x = l at *
    have hll : l.length = n := by rw [← hl]; exact recsFrom_length n x
    go_wp2_with fail
    refine (specFramed_any _ l w1 R1).mono ?_
    rintro e w2 ⟨v0, rfl, O0, K2⟩
    have B0 := O0.bt
    have K := K1.trans (K2.mono K1.size)
    clear R1 K1 K2 O0
    have hlm : (framedD l).length ≤ 1048576 := Nat.le_trans (framedD_max l) (by decide)
    generalize hL : framedD l = L at *
    have HL := Lib.hid hL
    have hlm' : (L.length : Int) ≤ 1048576 := by omega
    clear hL
    have hβ : w.heap.size ≤ w2.heap.size := K.size
    generalize hβ2 : w2.heap.size = β at *
    have HB2 := Lib.hid hβ2
    clear hβ2
    go_wp2_with fail
    -- the argument of the program's call
    refine (toRecS_any A n c x w2 ((S.out.below K (Nat.le_refl _)).more K.size) hsz).mono ?_
    intro e w3 hmade
    obtain ⟨g1, rfl, hg1, hg1z, F1, R1, K3⟩ := hmade.rt HM.out
    rw [hl] at R1
    replace B0 := B0.below K3 (by rw [HB2.out]; exact Nat.le_refl _)
    replace K := K.trans (K3.mono K.size)
    rw [HB2.out] at hg1
    have hs3 : β ≤ w3.heap.size := by have := K3.size; rw [HB2.out] at this; exact this
    clear hmade K3
    go_wp2_with fail
    refine (framed_any _ l w3 (HN.out.go K) R1).mono ?_
    rintro e w4 ⟨v1, rfl, O1, K4⟩
    rw [HL.out] at O1
    replace F1 := F1.below K4 hg1z
    replace B0 := B0.below K4 hs3
    replace K := K.trans (K4.mono K.size)
    replace R1 := R1.go K4
    have hs4 := K4.size
    generalize hβ3 : w3.heap.size = β3 at *
    have HB3 := Lib.hid hβ3
    clear K4 hβ3
    go_wp2_with fail
    refine (eqByteS_same v1 v0 L w4 O1.bt (B0.more (by omega))).mono ?_
    rintro e w5 ⟨rfl, hb⟩
    replace F1 := F1.below hb (by omega)
    replace B0 := B0.below hb (by omega)
    replace K := K.trans (hb.mono K.size)
    replace R1 := R1.go hb
    replace O1 := O1.below hb
    have hs5 : β3 ≤ w5.heap.size := Nat.le_trans hs4 hb.size
    clear hb hs4
    go_wp2_with fail
    -- the argument is as it was
    refine (toRecS_any A n c x w5 ((S.out.below K (Nat.le_refl _)).more K.size) hsz).mono ?_
    intro e w6 hmade
    obtain ⟨g2, rfl, -, -, -, R2, hb⟩ := hmade.rt HM.out
    rw [hl] at R2
    replace F1 := F1.below hb (by omega)
    replace B0 := B0.below hb (by omega)
    replace K := K.trans (hb.mono K.size)
    replace R1 := R1.go hb
    replace O1 := O1.below hb
    have hs6 : β3 ≤ w6.heap.size := Nat.le_trans hs5 hb.size
    clear hb hs5 hmade
    go_wp2_with fail
    refine (eqRecS_same _ _ l w6 R1 R2).mono ?_
    rintro e w7 ⟨rfl, hb⟩
    replace F1 := F1.below hb (by omega)
    replace B0 := B0.below hb (by omega)
    replace K := K.trans (hb.mono K.size)
    replace O1 := O1.below hb
    have hs7 : β3 ≤ w7.heap.size := Nat.le_trans hs6 hb.size
    clear hb hs6 R1 R2
    go_wp2_with fail
    -- the argument is marked
    refine (markRecS_any _ n n g1 1 x w7 (fun _ => rfl) F1 hsz (by omega) (by omega)).mono ?_
    rintro e w8 ⟨rfl, -, hk⟩
    replace B0 := B0.keeps hk (by omega) (by rintro b hb rfl; omega)
    replace O1 := O1.keeps hk (by rintro r hr rfl; omega)
    replace K := K.trans (hk.below (B := w.heap.size) K.size (by rintro b hb rfl; omega))
    have hs8 : β3 ≤ w8.heap.size := Nat.le_trans hs7 hk.size
    have hk0 : ¬ ((1 : Int) + 3 * (n : Int) < 0) := by omega
    clear hk hs7 F1
    go_wp2_with fail
    refine (eqByteS_same v1 v0 L w8 O1.bt (B0.more (by omega))).mono ?_
    rintro e w9 ⟨rfl, hb⟩
    replace B0 := B0.below hb (by omega)
    replace K := K.trans (hb.mono K.size)
    replace O1 := O1.below hb
    have hs9 : β3 ≤ w9.heap.size := Nat.le_trans hs8 hb.size
    clear hb hs8 hk0
    go_wp2_with fail
    -- the answer is marked
    obtain ⟨A1, c1, s1, rfl, hA1, hB1, hz1, U1⟩ := O1.openU
    have HA1 := Lib.hid hA1
    have HZ1 := Lib.hid hz1
    clear O1 hA1 hz1
    refine (markByteS_any A1 L.length c1 s1 1 _ w9 HA1.out U1 hlm (by omega) (by omega)).mono ?_
    rintro e w10 ⟨rfl, U1, hk⟩
    replace B0 := B0.keeps hk (by omega) (by rintro b hb rfl; omega)
    replace K := K.trans (hk.below (B := w.heap.size) K.size (by rintro b hb rfl; omega))
    replace HZ1 := Lib.hid (fun h => Nat.lt_of_lt_of_le (HZ1.out h) hk.size)
    have hs10 : β3 ≤ w10.heap.size := Nat.le_trans hs9 hk.size
    clear hk hs9
    go_wp2_with fail
    refine (heldByteS_any A1 L.length c1 s1 1 w10 HA1.out U1 hlm (by omega) (by omega)).mono ?_
    rintro e w11 ⟨rfl, hb⟩
    replace B0 := B0.below hb (by omega)
    replace K := K.trans (hb.mono K.size)
    replace U1 := U1.go HZ1.out hb
    replace HZ1 := Lib.hid (fun h => Nat.lt_of_lt_of_le (HZ1.out h) hb.size)
    have hs11 : β3 ≤ w11.heap.size := Nat.le_trans hs10 hb.size
    have hm0 : ¬ ((1 : Int) + (L.length : Int) < 0) := by omega
    clear hb hs10
    go_wp2_with fail
    -- once more, of another copy
    refine (toRecS_any A n c x w11 ((S.out.below K (Nat.le_refl _)).more K.size) hsz).mono ?_
    intro e w12 hmade
    obtain ⟨g3, rfl, -, -, -, R3, hb⟩ := hmade.rt HM.out
    rw [hl] at R3
    replace B0 := B0.below hb (by omega)
    replace K := K.trans (hb.mono K.size)
    replace U1 := U1.go HZ1.out hb
    replace HZ1 := Lib.hid (fun h => Nat.lt_of_lt_of_le (HZ1.out h) hb.size)
    have hs12 : β3 ≤ w12.heap.size := Nat.le_trans hs11 hb.size
    clear hb hs11 hmade
    go_wp2_with fail
    refine (framed_any _ l w12 (HN.out.go K) R3).mono ?_
    rintro e w13 ⟨v2, rfl, O2, hb⟩
    rw [HL.out] at O2
    replace B0 := B0.below hb (by omega)
    replace K := K.trans (hb.mono K.size)
    replace U1 := U1.go HZ1.out hb
    replace HZ1 := Lib.hid (fun h => Nat.lt_of_lt_of_le (HZ1.out h) hb.size)
    have hs13 : β3 ≤ w13.heap.size := Nat.le_trans hs12 hb.size
    clear hb hs12 R3
    go_wp2_with fail
    refine (eqByteS_same v2 v0 L w13 O2.bt (B0.more (by omega))).mono ?_
    rintro e w14 ⟨rfl, hb⟩
    replace K := K.trans (hb.mono K.size)
    replace U1 := U1.go HZ1.out hb
    clear hb B0 O2
    go_wp2_with fail
    refine (heldByteS_any A1 L.length c1 s1 1 w14 HA1.out U1 hlm (by omega) (by omega)).mono ?_
    rintro e w15 ⟨rfl, hb⟩
    replace K := K.trans (hb.mono K.size)
    clear hb U1
    go_wp2_with fail
    go_ret
    exact ⟨rfl, K⟩
  · have e0 : szI 1048576 n = -1 := szI_neg (by omega)
    rw [e0]
    clear e0
    go_wp2_with fail
    go_ret
    exact ⟨rfl, Below.refl _ _⟩
end Go.Proofs.YtcpmkbemkhacnaaDoor
