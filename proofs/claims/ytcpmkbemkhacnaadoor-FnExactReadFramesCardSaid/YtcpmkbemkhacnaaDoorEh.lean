/-
  The walk of the law of ReadFrames; what the program's function answers is a premise.
-/
import Derived.Test.YtcpmkbemkhacnaaDoorEg
set_option linter.unusedVariables false
namespace Go.Proofs.YtcpmkbemkhacnaaDoor
open Go.RowKit

set_option maxRecDepth 100000 in
set_option maxHeartbeats 4000000 in
theorem lawReadFrames (v : Value) (L : List Nat) (w : World) (h : Bt w w.heap.size v L)
    (HI : Hid (∀ (v : Value) (w1 : World), Below w.heap.size w w1 → Bt w1 w1.heap.size v L → L.length ≤ 1048576 → Calls Tryd.prog 13 #[v] w1 (ReadAll L w1))) :
    Calls Tryd.prog 6 #[v] w fun e w' => e = .returned (.bool true) ∧ Below w.heap.size w w' := by
  have S := Lib.hid h
  obtain ⟨⟨A, c, rfl, -, -⟩, hm, -⟩ := h
  have hm' : L.length ≤ 2 ^ 63 - 1 := by unfold maxLen at hm; omega
  clear hm
  generalize hq : L.length = n at *
  have HQ := Lib.hid hq
  clear hq
  by_cases hsz : n ≤ 1048576
  · have hsz' : (n : Int) ≤ 1048576 := by omega
    have HLL : Hid (L.length ≤ 1048576) := Lib.hid (by rw [HQ.out]; exact hsz)
    go_enter Tryd.func6, Tryd.ntmps6
    go_wp2_with fail
    -- the model's answer
    refine (toByteS_any _ L w S.out HLL.out).mono ?_
    rintro e w1 ⟨g0, rfl, -, -, -, R1, K1⟩
    go_wp2_with fail
    refine (specReadFrames_any _ L w1 R1 (Nat.le_trans HLL.out (by decide))).mono ?_
    rintro e w2 ⟨v0, rfl, O0, K2⟩
    have B0 := O0.st
    have K := K1.trans (K2.mono K1.size)
    clear R1 K1 K2 O0
    have hfs := framesN_small L
    have hfl := framesN_le L
    generalize hl : (framesN L).1 = ls at *
    have HL := Lib.hid hl
    generalize hb : (framesN L).2 = z at *
    have HOK := Lib.hid hb
    have hlm : ls.length ≤ 1048576 := by have := HLL.out; omega
    have htot : (1 : Int) + 3 * (total ls : Int) ≤ 8388608 := by have := HLL.out; omega
    have HEA : Hid (∀ i, i < ls.length → (listAt ls i).length ≤ 1048576) := Lib.hid fun i _ => Nat.le_trans (hfs.2.2 i) (by decide)
    clear hl hb hfs hfl
    have hβ : w.heap.size ≤ w2.heap.size := K.size
    generalize hβ2 : w2.heap.size = β at *
    have HB2 := Lib.hid hβ2
    clear hβ2
    go_wp2_with fail
    -- the argument of the program's call
    refine (toByteS_any _ L w2 ((S.out.below K (Nat.le_refl _)).more K.size) HLL.out).mono ?_
    rintro e w3 ⟨g1, rfl, hg1, hg1z, F1, R1, K3⟩
    replace B0 := B0.below K3 (by rw [HB2.out]; exact Nat.le_refl _)
    replace K := K.trans (K3.mono K.size)
    rw [HB2.out] at hg1
    have hs3 : β ≤ w3.heap.size := by have := K3.size; rw [HB2.out] at this; exact this
    clear K3
    go_wp2_with fail
    refine (HI.out _ w3 K R1 hsz).mono ?_
    rintro e w4 ⟨v1, rfl, O1, K4⟩
    rw [HL.out] at O1
    rw [HOK.out]
    replace F1 := F1.below K4 hg1z
    replace B0 := B0.below K4 hs3
    replace K := K.trans (K4.mono K.size)
    replace R1 := R1.go K4
    have hs4 := K4.size
    generalize hβ3 : w3.heap.size = β3 at *
    have HB3 := Lib.hid hβ3
    clear K4 hβ3
    go_wp2_with fail
    refine (eqRecSS_same v1 v0 ls w4 O1.st (B0.more (by omega))).mono ?_
    rintro e w5 ⟨rfl, hb⟩
    replace F1 := F1.below hb (by omega)
    replace B0 := B0.below hb (by omega)
    replace K := K.trans (hb.mono K.size)
    replace R1 := R1.go hb
    replace O1 := O1.below hb
    have hs5 : β3 ≤ w5.heap.size := Nat.le_trans hs4 hb.size
    clear hb hs4
    go_wp2_with fail
    -- the argument is as it was
    refine (toByteS_any _ L w5 ((S.out.below K (Nat.le_refl _)).more K.size) HLL.out).mono ?_
    rintro e w6 ⟨g2, rfl, -, -, -, R2, hb⟩
    replace F1 := F1.below hb (by omega)
    replace B0 := B0.below hb (by omega)
    replace K := K.trans (hb.mono K.size)
    replace R1 := R1.go hb
    replace O1 := O1.below hb
    have hs6 : β3 ≤ w6.heap.size := Nat.le_trans hs5 hb.size
    clear hb hs5
    go_wp2_with fail
    refine (eqByteS_same _ _ L w6 R1 R2).mono ?_
    rintro e w7 ⟨rfl, hb⟩
    replace F1 := F1.below hb (by omega)
    replace B0 := B0.below hb (by omega)
    replace K := K.trans (hb.mono K.size)
    replace O1 := O1.below hb
    have hs7 : β3 ≤ w7.heap.size := Nat.le_trans hs6 hb.size
    clear hb hs6 R1 R2
    go_wp2_with fail
    -- the argument is marked
    refine (markByteS_any _ L.length L.length g1 1 _ w7 (fun _ => rfl) F1 HLL.out (by omega) (by omega)).mono ?_
    rintro e w8 ⟨rfl, -, hk⟩
    replace B0 := B0.keeps hk (by omega) (by rintro b hb rfl; omega)
    replace O1 := O1.keeps hk (by rintro r hr rfl; omega)
    replace K := K.trans (hk.below (B := w.heap.size) K.size (by rintro b hb rfl; omega))
    have hs8 : β3 ≤ w8.heap.size := Nat.le_trans hs7 hk.size
    have hk0 : ¬ ((1 : Int) + (L.length : Int) < 0) := by omega
    clear hk hs7 F1
    go_wp2_with fail
    refine (eqRecSS_same v1 v0 ls w8 O1.st (B0.more (by omega))).mono ?_
    rintro e w9 ⟨rfl, hb⟩
    replace B0 := B0.below hb (by omega)
    replace K := K.trans (hb.mono K.size)
    replace O1 := O1.below hb
    have hs9 : β3 ≤ w9.heap.size := Nat.le_trans hs8 hb.size
    clear hb hs8 hk0
    go_wp2_with fail
    -- the answer is marked
    refine (markRecSS_any v1 ls 1 β3 w9 O1 (by omega) htot hlm HEA.out).mono ?_
    rintro e w10 ⟨rfl, U1, hk⟩
    replace B0 := B0.keeps hk (by omega) (by intro b hb hb2; omega)
    replace K := K.trans (hk.below (B := w.heap.size) K.size (by intro b hb hb2; omega))
    clear O1
    have hs10 : β3 ≤ w10.heap.size := Nat.le_trans hs9 hk.size
    clear hk hs9
    go_wp2_with fail
    refine (heldRecSS_any v1 ls 1 w10 U1 (by omega) htot hlm HEA.out).mono ?_
    rintro e w11 ⟨rfl, hb⟩
    replace B0 := B0.below hb (by omega)
    replace K := K.trans (hb.mono K.size)
    replace U1 := U1.go hb
    have hs11 : β3 ≤ w11.heap.size := Nat.le_trans hs10 hb.size
    have hm0 : ¬ ((1 : Int) + 3 * (total ls : Int) < 0) := by omega
    clear hb hs10
    go_wp2_with fail
    -- once more, of another copy
    refine (toByteS_any _ L w11 ((S.out.below K (Nat.le_refl _)).more K.size) HLL.out).mono ?_
    rintro e w12 ⟨g3, rfl, -, -, -, R3, hb⟩
    replace B0 := B0.below hb (by omega)
    replace K := K.trans (hb.mono K.size)
    replace U1 := U1.go hb
    have hs12 : β3 ≤ w12.heap.size := Nat.le_trans hs11 hb.size
    clear hb hs11
    go_wp2_with fail
    refine (HI.out _ w12 K R3 hsz).mono ?_
    rintro e w13 ⟨v2, rfl, O2, hb⟩
    rw [HL.out] at O2
    rw [HOK.out]
    replace B0 := B0.below hb (by omega)
    replace K := K.trans (hb.mono K.size)
    replace U1 := U1.go hb
    have hs13 : β3 ≤ w13.heap.size := Nat.le_trans hs12 hb.size
    clear hb hs12 R3
    go_wp2_with fail
    refine (eqRecSS_same v2 v0 ls w13 O2.st (B0.more (by omega))).mono ?_
    rintro e w14 ⟨rfl, hb⟩
    replace K := K.trans (hb.mono K.size)
    replace U1 := U1.go hb
    clear hb B0 O2
    go_wp2_with fail
    refine (heldRecSS_any v1 ls 1 w14 U1 (by omega) htot hlm HEA.out).mono ?_
    rintro e w15 ⟨rfl, hb⟩
    replace K := K.trans (hb.mono K.size)
    clear hb U1
    go_wp2_with fail
    go_ret
    exact ⟨rfl, K⟩
  · have hsz' : (1048576 : Int) < n := by omega
    go_enter Tryd.func6, Tryd.ntmps6
    go_wp2_with fail
    go_ret
    exact ⟨rfl, Below.refl _ _⟩
end Go.Proofs.YtcpmkbemkhacnaaDoor
