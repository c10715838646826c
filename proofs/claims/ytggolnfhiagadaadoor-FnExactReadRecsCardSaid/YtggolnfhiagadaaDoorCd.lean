/-
  The walk of the law of ReadRecs.
-/
import Derived.Test.YtggolnfhiagadaaDoorBh
import Derived.Test.YtggolnfhiagadaaDoorBgS
set_option linter.unusedVariables false
namespace Go.Proofs.YtggolnfhiagadaaDoor
open Go.RowKit

theorem Rt.keeps {S : Nat → Prop} {w w' : World} {B : Nat} {v : Value} {l : List RecD} (h : Rt w B v l) (hk : Keeps S w w') (hB : B ≤ w.heap.size) (hS : ∀ b, b < B → ¬ S b) : Rt w' B v l :=
  h.below (hk.below (B := B) hB hS) (Nat.le_refl _)
theorem OR.keeps {S : Nat → Prop} {w w' : World} {B : Nat} {v : Value} {l : List RecD} (h : OR w B v l) (hk : Keeps S w w') (hS : ∀ r, B ≤ r → ¬ S r) : OR w' B v l := by
  obtain ⟨hl, ho⟩ := h
  refine ⟨hl, ho.imp id ?_⟩
  rintro ⟨g, cap, cur, hv, hb', hh, rest⟩
  exact ⟨g, cap, cur, hv, hb', (hk.block g (Array.getElem?_eq_some_iff.1 hh).1 (hS g hb')).trans hh, rest⟩
theorem readD_len (L : List Nat) : ((readN L).getD []).length ≤ 80 := by
  cases h : readN L with
  | none => simp
  | some l =>
    show l.length ≤ 80
    unfold readN at h
    split at h
    · cases h
    · rename_i n r h1
      split at h
      · cases h
      · rename_i h80
        cases h2 : getRecs n r with
        | none => rw [h2] at h; cases h
        | some q =>
          rw [h2] at h
          have hn : ∀ (n : Nat) (r : List Nat) (q : List RecD × List Nat), getRecs n r = some q → q.1.length = n := fun n => by
            induction n with
            | zero => intro r q h; cases h; rfl
            | succ n ih =>
              intro r q h
              rw [getRecs_succ] at h
              cases h1 : getRec r with
              | none => rw [h1] at h; cases h
              | some p =>
                rw [h1, Option.bind_some] at h
                cases h3 : getRecs n p.2 with
                | none => rw [h3] at h; cases h
                | some s =>
                  rw [h3] at h
                  cases h
                  simp [ih _ _ h3]
          have := hn n r q h2
          obtain ⟨l', r'⟩ := q
          dsimp only at h
          split at h
          · cases h; dsimp only at this; omega
          · cases h

set_option maxRecDepth 100000 in
set_option maxHeartbeats 4000000 in
theorem lawReadRecs (v : Value) (L : List Nat) (w : World) (hN : Names w) (h : Bt w w.heap.size v L) :
    Calls Tryd.prog 6 #[v] w fun e w' => e = .returned (.bool true) ∧ Below w.heap.size w w' := by
  have HN := Lib.hid hN
  have S := Lib.hid h
  obtain ⟨⟨A, c, rfl, -, -⟩, hm, -⟩ := h
  have hm' : L.length ≤ 2 ^ 63 - 1 := by unfold maxLen at hm; omega
  clear hN hm
  generalize hq : L.length = n at *
  have HQ := Lib.hid hq
  clear hq
  by_cases hsz : n ≤ 1048576
  · have hsz' : (n : Int) ≤ 1048576 := by omega
    have HLL : Hid (L.length ≤ 1048576) := Lib.hid (by rw [HQ.out]; exact hsz)
    go_enter Tryd.func6, Tryd.ntmps6
    go_wp2_with fail
    -- the model's answer
    refine (toByteS_any _ L w S.out HLL.out).mono ?_
    rintro e w1 ⟨g0, rfl, -, -, -, R1, K1⟩
    go_wp2_with fail
    refine (specReadRecs_any _ L w1 R1).mono ?_
    rintro e w2 ⟨v0, rfl, O0, K2⟩
    have B0 := O0.rt
    have K := K1.trans (K2.mono K1.size)
    clear R1 K1 K2 O0
    have hlm : ((readN L).getD []).length ≤ 80 := readD_len L
    generalize hl : (readN L).getD [] = l at *
    have HL := Lib.hid hl
    have hlm' : (l.length : Int) ≤ 80 := by omega
    clear hl
    generalize hb : (readN L).isSome = ok at *
    have HOK := Lib.hid hb
    clear hb
    have hβ : w.heap.size ≤ w2.heap.size := K.size
    generalize hβ2 : w2.heap.size = β at *
    have HB2 := Lib.hid hβ2
    clear hβ2
    go_wp2_with fail
    -- the argument of the program's call
    refine (toByteS_any _ L w2 ((S.out.below K (Nat.le_refl _)).more K.size) HLL.out).mono ?_
    rintro e w3 ⟨g1, rfl, hg1, hg1z, F1, R1, K3⟩
    replace B0 := B0.below K3 (by rw [HB2.out]; exact Nat.le_refl _)
    replace K := K.trans (K3.mono K.size)
    rw [HB2.out] at hg1
    have hs3 : β ≤ w3.heap.size := by have := K3.size; rw [HB2.out] at this; exact this
    clear K3
    go_wp2_with fail
    refine (readRecs_any _ L w3 (HN.out.go K) R1).mono ?_
    rintro e w4 ⟨v1, rfl, O1, K4⟩
    rw [HL.out] at O1
    rw [HOK.out]
    replace F1 := F1.below K4 hg1z
    replace B0 := B0.below K4 hs3
    replace K := K.trans (K4.mono K.size)
    replace R1 := R1.go K4
    have hs4 := K4.size
    generalize hβ3 : w3.heap.size = β3 at *
    have HB3 := Lib.hid hβ3
    clear K4 hβ3
    go_wp2_with fail
    refine (eqRecS_same v1 v0 l w4 O1.rt (B0.more (by omega))).mono ?_
    rintro e w5 ⟨rfl, hb⟩
    replace F1 := F1.below hb (by omega)
    replace B0 := B0.below hb (by omega)
    replace K := K.trans (hb.mono K.size)
    replace R1 := R1.go hb
    replace O1 := O1.below hb
    have hs5 : β3 ≤ w5.heap.size := Nat.le_trans hs4 hb.size
    clear hb hs4
    go_wp2_with fail
    -- the argument is as it was
    refine (toByteS_any _ L w5 ((S.out.below K (Nat.le_refl _)).more K.size) HLL.out).mono ?_
    rintro e w6 ⟨g2, rfl, -, -, -, R2, hb⟩
    replace F1 := F1.below hb (by omega)
    replace B0 := B0.below hb (by omega)
    replace K := K.trans (hb.mono K.size)
    replace R1 := R1.go hb
    replace O1 := O1.below hb
    have hs6 : β3 ≤ w6.heap.size := Nat.le_trans hs5 hb.size
    clear hb hs5
    go_wp2_with fail
    refine (eqByteS_same _ _ L w6 R1 R2).mono ?_
    rintro e w7 ⟨rfl, hb⟩
    replace F1 := F1.below hb (by omega)
    replace B0 := B0.below hb (by omega)
    replace K := K.trans (hb.mono K.size)
    replace O1 := O1.below hb
    have hs7 : β3 ≤ w7.heap.size := Nat.le_trans hs6 hb.size
    clear hb hs6 R1 R2
    go_wp2_with fail
    -- the argument is marked
    refine (markByteS_any _ L.length L.length g1 1 _ w7 (fun _ => rfl) F1 HLL.out (by omega) (by omega)).mono ?_
    rintro e w8 ⟨rfl, -, hk⟩
    replace B0 := B0.keeps hk (by omega) (by rintro b hb rfl; omega)
    replace O1 := O1.keeps hk (by rintro r hr rfl; omega)
    replace K := K.trans (hk.below (B := w.heap.size) K.size (by rintro b hb rfl; omega))
    have hs8 : β3 ≤ w8.heap.size := Nat.le_trans hs7 hk.size
    have hk0 : ¬ ((1 : Int) + (L.length : Int) < 0) := by omega
    clear hk hs7 F1
    go_wp2_with fail
    refine (eqRecS_same v1 v0 l w8 O1.rt (B0.more (by omega))).mono ?_
    rintro e w9 ⟨rfl, hb⟩
    replace B0 := B0.below hb (by omega)
    replace K := K.trans (hb.mono K.size)
    replace O1 := O1.below hb
    have hs9 : β3 ≤ w9.heap.size := Nat.le_trans hs8 hb.size
    clear hb hs8 hk0
    go_wp2_with fail
    -- the answer is marked
    obtain ⟨A1, c1, s1, rfl, hA1, hB1, hz1, U1⟩ := O1.open_
    have HA1 := Lib.hid hA1
    have HZ1 := Lib.hid hz1
    clear O1 hA1 hz1
    refine (markRecS_any A1 l.length c1 s1 1 _ w9 HA1.out U1 (by omega) (by omega) (by omega)).mono ?_
    rintro e w10 ⟨rfl, U1, hk⟩
    replace B0 := B0.keeps hk (by omega) (by rintro b hb rfl; omega)
    replace K := K.trans (hk.below (B := w.heap.size) K.size (by rintro b hb rfl; omega))
    replace HZ1 := Lib.hid (fun h => Nat.lt_of_lt_of_le (HZ1.out h) hk.size)
    have hs10 : β3 ≤ w10.heap.size := Nat.le_trans hs9 hk.size
    clear hk hs9
    go_wp2_with fail
    refine (heldRecS_any A1 l.length c1 s1 1 w10 HA1.out U1 (by omega) (by omega) (by omega)).mono ?_
    rintro e w11 ⟨rfl, hb⟩
    replace B0 := B0.below hb (by omega)
    replace K := K.trans (hb.mono K.size)
    replace U1 := U1.go (fun h => HZ1.out (by omega)) hb
    replace HZ1 := Lib.hid (fun h => Nat.lt_of_lt_of_le (HZ1.out h) hb.size)
    have hs11 : β3 ≤ w11.heap.size := Nat.le_trans hs10 hb.size
    have hm0 : ¬ ((1 : Int) + 3 * (l.length : Int) < 0) := by omega
    clear hb hs10
    go_wp2_with fail
    -- once more, of another copy
    refine (toByteS_any _ L w11 ((S.out.below K (Nat.le_refl _)).more K.size) HLL.out).mono ?_
    rintro e w12 ⟨g3, rfl, -, -, -, R3, hb⟩
    replace B0 := B0.below hb (by omega)
    replace K := K.trans (hb.mono K.size)
    replace U1 := U1.go (fun h => HZ1.out (by omega)) hb
    replace HZ1 := Lib.hid (fun h => Nat.lt_of_lt_of_le (HZ1.out h) hb.size)
    have hs12 : β3 ≤ w12.heap.size := Nat.le_trans hs11 hb.size
    clear hb hs11
    go_wp2_with fail
    refine (readRecs_any _ L w12 (HN.out.go K) R3).mono ?_
    rintro e w13 ⟨v2, rfl, O2, hb⟩
    rw [HL.out] at O2
    rw [HOK.out]
    replace B0 := B0.below hb (by omega)
    replace K := K.trans (hb.mono K.size)
    replace U1 := U1.go (fun h => HZ1.out (by omega)) hb
    replace HZ1 := Lib.hid (fun h => Nat.lt_of_lt_of_le (HZ1.out h) hb.size)
    have hs13 : β3 ≤ w13.heap.size := Nat.le_trans hs12 hb.size
    clear hb hs12 R3
    go_wp2_with fail
    refine (eqRecS_same v2 v0 l w13 O2.rt (B0.more (by omega))).mono ?_
    rintro e w14 ⟨rfl, hb⟩
    replace K := K.trans (hb.mono K.size)
    replace U1 := U1.go (fun h => HZ1.out (by omega)) hb
    clear hb B0 O2
    go_wp2_with fail
    refine (heldRecS_any A1 l.length c1 s1 1 w14 HA1.out U1 (by omega) (by omega) (by omega)).mono ?_
    rintro e w15 ⟨rfl, hb⟩
    replace K := K.trans (hb.mono K.size)
    clear hb U1
    go_wp2_with fail
    go_ret
    exact ⟨rfl, K⟩
  · have hsz' : (1048576 : Int) < n := by omega
    go_enter Tryd.func6, Tryd.ntmps6
    go_wp2_with fail
    go_ret
    exact ⟨rfl, Below.refl _ _⟩
end Go.Proofs.YtggolnfhiagadaaDoor
