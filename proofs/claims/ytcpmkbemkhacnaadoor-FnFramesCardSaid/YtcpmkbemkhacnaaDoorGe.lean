/-
  The walk of FnFrames.
-/
import Derived.Test.YtcpmkbemkhacnaaDoorGd
import Derived.Test.YtcpmkbemkhacnaaDoorA8
import Derived.Test.YtcpmkbemkhacnaaDoorFl
import Derived.Deep.RegionHeld3
set_option linter.unusedVariables false
namespace Go.Proofs.YtcpmkbemkhacnaaDoor
open Go.RowKit

set_option maxRecDepth 100000 in
set_option maxHeartbeats 8000000 in
theorem lawFrames (A : Option Addr) (n c : Nat) (w : World) (hN : Names w) (hB : Bytes w w.heap.size A n) (hn : n ≤ maxLen) :
    Calls Tryd.prog 4 #[.slice A n c] w fun e w' => e = .returned (.bool true) ∧ Below w.heap.size w w' := by
  have HN := Lib.hid hN
  have HB := Lib.hid hB
  have HM := Lib.hid hn
  clear hN hB hn
  go_enter Tryd.func4, Tryd.ntmps4
  go_wp2_with fail
  refine (big_any A n c w HM.out).mono ?_
  rintro e w' ⟨rfl, rfl⟩
  by_cases hbig : (n : Int) ≤ 4096
  · have hn : n ≤ 4096 := by omega
    go_wp2_with fail
    refine (drawReadFrames_any A n c w HB.out hn).mono ?_
    rintro e w1 ⟨v1, L, rfl, hL, O1, K1⟩
    have B1 := O1.bt
    obtain ⟨A1, c1, g1, rfl, -⟩ := O1.open_
    clear O1
    go_wp2_with fail
    refine (readFrames_any _ L w1 (HN.out.go K1) B1 (by omega)).mono ?_
    rintro e w2 ⟨v2, rfl, O2, hb2⟩
    have K2 := K1.trans (hb2.mono K1.size)
    have B2 := B1.go hb2
    have S2 := O2.st
    obtain ⟨A2, c2, rfl⟩ := O2.shape
    clear K1 B1 hb2 O2
    go_wp2_with fail
    refine (specReadFrames_any _ L w2 B2 (by omega)).mono ?_
    rintro e w3 ⟨v3, rfl, O3, hb3⟩
    have K3 := K2.trans (hb3.mono K2.size)
    have B3 := B2.go hb3
    have S3 := S2.go hb3
    have T3 := O3.st
    obtain ⟨A3, c3, rfl⟩ := O3.shape
    clear K2 B2 S2 hb3 O3
    have hle := framesN_le L
    generalize (framesN L).1 = ls at *
    generalize (framesN L).2 = z at *
    go_wp2_with fail
    refine (drawWithFrame_any A n c w3 ((HB.out.below K3 (Nat.le_refl _)).more K3.size) hn).mono ?_
    rintro e w4 ⟨vb, b, vl, l, rfl, hb, hl, OB4, OR4, hb4⟩
    have K4 := K3.trans (hb4.mono K3.size)
    have B4 := B3.go hb4
    have S4 := S3.go hb4
    have T4 := T3.go hb4
    have D4 := OB4.bt
    have E4 := OR4.rt
    have HRE := Lib.hid OB4.real
    obtain ⟨A4, c4, g4, rfl, -⟩ := OB4.open_
    clear K3 B3 S3 T3 hb4 OB4 OR4
    go_wp2_with fail
    refine (withFrame_any _ vl b l w4 (HN.out.go K4) D4 E4 HRE.out (by omega)).mono ?_
    rintro e w5 ⟨v5, rfl, O5, hb5⟩
    have K5 := K4.trans (hb5.mono K4.size)
    have B5 := B4.go hb5
    have S5 := S4.go hb5
    have T5 := T4.go hb5
    have D5 := D4.go hb5
    have E5 := E4.go hb5
    have F5 := O5.bt
    obtain ⟨A5, c5, g5, rfl, -⟩ := O5.open_
    clear K4 B4 S4 T4 D4 E4 hb5 O5
    go_wp2_with fail
    refine (specWithFrame_any _ vl b l w5 D5 E5 HRE.out (by omega)).mono ?_
    rintro e w6 ⟨v6, rfl, O6, hb6⟩
    have K6 := K5.trans (hb6.mono K5.size)
    have B6 := B5.go hb6
    have S6 := S5.go hb6
    have T6 := T5.go hb6
    have F6 := F5.go hb6
    have G6 := O6.bt
    obtain ⟨A6, c6, g6, rfl, -⟩ := O6.open_
    clear K5 B5 S5 T5 D5 E5 F5 hb6 O6
    have hx := conv_bt F6
    have hy := conv_bt G6
    have hwl := withD_len b l
    clear F6 G6
    generalize strOf (withD b l) = sx at *
    generalize (withD b l).length = p at *
    generalize withOk b l = ok at *
    have HS := Lib.hid B6
    have H := Lib.hid S6
    have H' := Lib.hid T6
    have hl4 : (L.length : Int) ≤ 175 := by omega
    have hls : ls.length ≤ 2 ^ 63 - 1 := by have := S6.len; unfold maxLen at this; omega
    clear B6 S6 T6
    generalize hq : ls.length = q at *
    have HQ := Lib.hid hq
    clear hq
    generalize b.length = p0 at *
    go_wp2_with (first
      | (go_at_call 19; refine (sumOf_any _ L w6 HS.out).mono ?_; rintro e w' ⟨rfl, rfl⟩)
      | (go_at_call 20; refine (specSumOf_any _ L w6 HS.out).mono ?_; rintro e w' ⟨rfl, rfl⟩))
    clear hx hy
    go_loopw [14] (fun i wr => ∃ k : Nat, k ≤ q ∧ i = .int .i64 k ∧ Below w6.heap.size w6 wr) (fun i _ => q - (intOf i).toNat)
    case atStart => exact ⟨0, Nat.zero_le _, rfl, Below.refl _ _⟩
    case round =>
      obtain ⟨k, hk, rfl, K⟩ := hrel
      by_cases hlt : k < q
      · obtain ⟨b, off, u, rfl, hb, q0, hr⟩ := ((H.out.below K (Nat.le_refl _)).more K.size).cell (i := k) (by rw [HQ.out]; exact hlt)
        obtain ⟨b', off', u', rfl, hb', r0, hr'⟩ := ((H'.out.below K (Nat.le_refl _)).more K.size).cell (i := k) (by rw [HQ.out]; exact hlt)
        have HR := Lib.hid hr
        have HR' := Lib.hid hr'
        have HBB := Lib.hid hb
        have HBB' := Lib.hid hb'
        obtain ⟨⟨a, ca, rfl, -⟩, -⟩ := hr
        obtain ⟨⟨a', ca', rfl, -⟩, -⟩ := hr'
        generalize listAt ls k = l at *
        clear hb hb'
        have S0 : wr.cell? ⟨b, off + k, none⟩ = some (.slice a l.length ca) ∧ wr.cell? ⟨b', off' + k, none⟩ = some (.slice a' l.length ca') ∧ Below w6.heap.size w6 wr := ⟨q0, r0, K⟩
        clear q0 r0
        go_wp2_with fail
        go_region_held3 (fun w' => w'.cell? ⟨b, off + k, none⟩ = some (.slice a l.length ca) ∧ w'.cell? ⟨b', off' + k, none⟩ = some (.slice a' l.length ca') ∧ Below w6.heap.size w6 w')
          (first | exact S0 | exact S1 | exact ⟨S0.1, S0.2.1, S0.2.2.drew⟩)
          (first
            | (go_at_call 14
               refine (likeRecs_same _ _ l _ (HR.out.go (Below.refl _ _).drew) (HR'.out.go (Below.refl _ _).drew)).mono ?_
               rintro e w2 ⟨rfl, hb2⟩
               have S1 : w2.cell? ⟨b, off + k, none⟩ = some (.slice a l.length ca) ∧ w2.cell? ⟨b', off' + k, none⟩ = some (.slice a' l.length ca') ∧ Below w6.heap.size w6 w2 :=
                 ⟨(hb2.cell (p := ⟨b, off + k, none⟩) HBB.out).trans S0.1, (hb2.cell (p := ⟨b', off' + k, none⟩) HBB'.out).trans S0.2.1, K.drew.trans (hb2.mono K.size)⟩))
        have K2 := S1.2.2
        clear S0 S1
        go_wp2
        exact ⟨⟨k + 1, by omega, by go_num, K2⟩, by simp [intOf]; omega⟩
      · obtain rfl : k = q := by omega
        have hz' : (z : Int) ≤ (L.length : Int) := by omega
        have hp' : (p : Int) ≤ 1200 + (p0 : Int) := by omega
        go_wp2
        go_ret
        exact ⟨rfl, K6.trans (K.mono K6.size)⟩
  · go_wp2_with fail
    go_ret
    exact ⟨rfl, Below.refl _ _⟩
end Go.Proofs.YtcpmkbemkhacnaaDoor
