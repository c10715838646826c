/-
  The walk of FnRecs.
-/
import Derived.Test.YtggolnfhiagadaaDoorA8
import Derived.Test.YtggolnfhiagadaaDoorDe
import Derived.Test.YtggolnfhiagadaaDoorDk
import Derived.Test.YtggolnfhiagadaaDoorBe
import Derived.Deep.RegionHeld3
import Derived.Deep.DeepCutAuto
set_option linter.unusedVariables false
namespace Go.Proofs.YtggolnfhiagadaaDoor
open Go.RowKit

theorem writeN_of {l : List RecD} (h : writeB l = true) : writeN l = some (wroteN l) := by
  rw [wroteN_yes h, writeN, if_pos (writeB_true h)]
theorem of_writeN {l : List RecD} {L : List Nat} (h : writeN l = some L) : writeB l = true ∧ wroteN l = L := by
  unfold writeN at h
  split at h
  · rename_i hc
    have hw : writeB l = true := by simp [writeB, hc.1, hc.2]
    rw [wroteN_yes hw]
    cases h
    exact ⟨hw, rfl⟩
  · cases h
theorem OB.shape {w : World} {B : Nat} {v : Value} {L : List Nat} (h : OB w B v L) : ∃ A n c, v = .slice A n c := by
  obtain ⟨A, c, g, hv, -⟩ := h.open_
  exact ⟨A, _, c, hv⟩
theorem Bt.shape {w : World} {B : Nat} {v : Value} {L : List Nat} (h : Bt w B v L) : ∃ A n c, v = .slice A n c := by
  obtain ⟨⟨A, c, hv, -⟩, -, -⟩ := h
  exact ⟨A, _, c, hv⟩

set_option maxRecDepth 100000 in
set_option maxHeartbeats 8000000 in
theorem lawRecs (A : Option Addr) (n c : Nat) (w : World) (hN : Names w) (hB : Bytes w w.heap.size A n) (hn : n ≤ maxLen) :
    Calls Tryd.prog 3 #[.slice A n c] w fun e w' => e = .returned (.bool true) ∧ Below w.heap.size w w' := by
  have HN := Lib.hid hN
  have HB := Lib.hid hB
  have HM := Lib.hid hn
  clear hN hB hn
  go_enter Tryd.func3, Tryd.ntmps3
  go_wp2_with fail
  refine (big_any A n c w HM.out).mono ?_
  rintro e w' ⟨rfl, rfl⟩
  by_cases hbig : (n : Int) ≤ 4096
  · have hn : n ≤ 4096 := by omega
    go_wp2_with fail
    refine (drawRecBytes_any A n c w HB.out hn).mono ?_
    rintro e w1 ⟨v1, l, rfl, hl, O1, K1⟩
    go_wp2_with fail
    refine (recBytes_any v1 l w1 (HN.out.go K1) O1.rt).mono ?_
    rintro e w2 ⟨v2, rfl, O2, hb2⟩
    have K2 := K1.trans (hb2.mono K1.size)
    have R2 := O1.rt.go hb2
    clear O1 K1 hb2
    go_wp2_with fail
    refine (specRecBytes_any v1 l w2 R2).mono ?_
    rintro e w3 ⟨v3, rfl, O3, hb3⟩
    have K3 := K2.trans (hb3.mono K2.size)
    have R3 := R2.go hb3
    have B3 := O2.bt.go hb3
    have C3 := O3.bt
    obtain ⟨A2, n2, c2, rfl⟩ := O2.shape
    obtain ⟨A3, n3, c3, rfl⟩ := O3.shape
    have hc2 := conv_bt B3
    have hc3 := conv_bt C3
    clear O2 K2 R2 hb3 O3 C3
    generalize strOf (wroteN l) = s at hc2 hc3
    generalize hwb : writeB l = wb
    have HW := Lib.hid hwb
    clear hwb
    go_upto_if 42 with (fail)
    go_cut [3] from 43 to 55 (fun s3 wx => Below w.heap.size w wx)
    case first =>
      cases wb
      · go_wp2_with fail
        go_meet
        exact K3
      · have hrd := Lib.hid (readN_yes (read_write (writeN_of HW.out)))
        clear hc2 hc3
        go_wp2_with fail
        refine (readRecs_any _ (wroteN l) w3 (HN.out.go K3) B3).mono ?_
        rintro e w4 ⟨v4, rfl, O4, hb4⟩
        rw [hrd.out.2] at O4
        rw [hrd.out.1]
        have K4 := K3.trans (hb4.mono K3.size)
        have R4 := R3.go hb4
        clear K3 R3 hb4 B3
        go_wp2_with fail
        refine (likeRecs_same v4 v1 l w4 O4.rt R4).mono ?_
        rintro e w5 ⟨rfl, hb5⟩
        have K5 := K4.trans (hb5.mono K4.size)
        clear K4 R4 hb5 O4
        go_wp2_with fail
        go_meet
        exact K5
    case rest =>
      rename_i wx
      clear hc2 hc3 K3 R3 B3
      have K4 := hcut
      clear hcut
      go_wp2_with fail
      refine (drawReadRecs_any A n c _ ((HB.out.below K4 (Nat.le_refl _)).more K4.size) hn).mono ?_
      rintro e w5 ⟨v5, L, rfl, B5, hb5⟩
      have K5 := K4.trans (hb5.mono K4.size)
      clear K4 hb5
      go_wp2_with fail
      refine (readRecs_any v5 L w5 (HN.out.go K5) B5).mono ?_
      rintro e w6 ⟨v6, rfl, O6, hb6⟩
      have K6 := K5.trans (hb6.mono K5.size)
      have B6 := B5.go hb6
      clear K5 B5 hb6
      generalize hβ6 : w5.heap.size = β6 at O6
      clear hβ6
      go_wp2_with fail
      refine (specReadRecs_any v5 L w6 B6).mono ?_
      rintro e w7 ⟨v7, rfl, -, hb7⟩
      have K7 := K6.trans (hb7.mono K6.size)
      have B7 := B6.go hb7
      have O7 := O6.below hb7
      clear K6 B6 O6 hb7
      go_wp2_with fail
      refine (drawRecOk_any A n c w7 ((HB.out.below K7 (Nat.le_refl _)).more K7.size) hn).mono ?_
      rintro e w8 ⟨⟨rk, ra, rb⟩, rfl, hb8⟩
      have K8 := K7.trans (hb8.mono K7.size)
      have B8 := B7.go hb8
      have O8 := O7.below hb8
      clear K7 B7 O7 hb8
      unfold recV
      dsimp only
      generalize hwb : (readN L).isSome = ok at *
      have HOK := Lib.hid hwb
      clear hwb
      go_wp2_with fail
      have X9 := Blk.new w8 #[.int .i64 rk, .int .i64 ra, .int .i64 rb] 33
      have K9 := K8.alloc K8.size (.cells #[.int .i64 rk, .int .i64 ra, .int .i64 rb] 33)
      have HB9 := Lib.hid (B8.go ((Below.refl _ _).alloc (Nat.le_refl _) (.cells #[.int .i64 rk, .int .i64 ra, .int .i64 rb] 33)))
      have HO9 := Lib.hid (O8.below ((Below.refl _ _).alloc (Nat.le_refl _) (.cells #[.int .i64 rk, .int .i64 ra, .int .i64 rb] 33)))
      clear K8 B8 O8
      generalize w8.alloc (.cells #[.int .i64 rk, .int .i64 ra, .int .i64 rb] 33) = w9 at X9 K9 HB9 HO9 ⊢
      generalize w8.heap.size = g at X9 ⊢
      have S9 : ∀ o, w9.cell? ⟨g, o, none⟩ = (#[.int .i64 rk, .int .i64 ra, .int .i64 rb] : Array Value)[o]? := X9.C
      go_region_held3 (fun w' => ∀ o, w'.cell? ⟨g, o, none⟩ = (#[.int .i64 rk, .int .i64 ra, .int .i64 rb] : Array Value)[o]?)
        (first | exact S9 | exact S10 | exact S11)
        (first
          | (go_at_call 16
             have D9 : Below w9.heap.size w9 w9.drew := (Below.refl _ _).drew
             refine (recOk_any ⟨rk, ra, rb⟩ _ (HN.out.go (K9.trans (D9.mono K9.size)))).mono ?_
             rintro e w10 ⟨rfl, hb10⟩
             have D10 : Below w9.heap.size w9 w10 := D9.trans hb10
             have S10 := (X9.below D10).C)
          | (go_at_call 17
             refine (specRecOk_any ⟨rk, ra, rb⟩ _).mono ?_
             rintro e w11 ⟨rfl, hb11⟩
             have D11 : Below w9.heap.size w9 w11 := D10.trans (hb11.mono D10.size)
             have S11 := (X9.below D11).C))
      have K11 := K9.trans (D11.mono K9.size)
      have HB11 := Lib.hid (HB9.out.go D11)
      have HO11 := Lib.hid (HO9.out.below D11)
      clear S9 S10 S11 D9 D10 D11 hb10 hb11 X9 K9 HB9 HO9
      generalize recOkB ⟨rk, ra, rb⟩ = q
      cases hrd : readN L with
      | none =>
        obtain rfl : ok = false := by rw [← HOK.out, hrd]; rfl
        have O11 := HO11.out
        rw [hrd] at O11
        obtain ⟨A6, c6, s6, rfl, -⟩ := OR.open_ O11
        clear O11
        go_wp2
        go_ret
        exact ⟨rfl, K11⟩
      | some l5 =>
        obtain rfl : ok = true := by rw [← HOK.out, hrd]; rfl
        have O11 := HO11.out
        rw [hrd] at O11
        have O11 : OR w11 β6 v6 l5 := O11
        have hwr := of_writeN (write_read HB11.out.small hrd)
        have HWR := Lib.hid hwr
        clear hwr hrd
        go_wp2_with fail
        refine (recBytes_any v6 l5 w11 (HN.out.go K11) O11.rt).mono ?_
        rintro e w12 ⟨v12, rfl, O12, hb12⟩
        rw [HWR.out.2] at O12
        rw [HWR.out.1]
        have K12 := K11.trans (hb12.mono K11.size)
        have B12 := HB11.out.go hb12
        have C12 := O12.bt
        obtain ⟨A12, n12, c12, rfl⟩ := O12.shape
        obtain ⟨A5, n5, c5, rfl⟩ := B12.shape
        have hc2 := conv_bt B12
        have hc3 := conv_bt C12
        clear O12 B12 C12 O11 K11 hb12
        generalize strOf L = s at hc2 hc3
        go_wp2
        go_ret
        exact ⟨rfl, K12⟩
  · go_wp2_with fail
    go_ret
    exact ⟨rfl, Below.refl _ _⟩
end Go.Proofs.YtggolnfhiagadaaDoor
