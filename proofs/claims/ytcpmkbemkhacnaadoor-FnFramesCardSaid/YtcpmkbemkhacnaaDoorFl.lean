/-
  The program's WithFrame.
-/
import Derived.Test.YtcpmkbemkhacnaaDoorEl
import Derived.Test.YtcpmkbemkhacnaaDoorEd
import Derived.Test.YtcpmkbemkhacnaaDoorFj
import Derived.Test.YtcpmkbemkhacnaaDoorFi
set_option linter.unusedVariables false
namespace Go.Proofs.YtcpmkbemkhacnaaDoor
open Go.RowKit

set_option maxRecDepth 100000 in
set_option maxHeartbeats 4000000 in
theorem withFrame_any (bv lv : Value) (b : List Nat) (l : List RecD) (w : World) (hN : Names w) (hb : Bt w w.heap.size bv b) (hl : Rt w w.heap.size lv l) (hr : Real bv) (hsz : b.length ≤ 4194304) :
    Calls Tryd.prog 11 #[bv, lv] w (WithD b l w) := by
  have HB := Lib.hid hb
  have HL := Lib.hid hl
  have hn0 := framesN_le b
  have hfm := framedD_max l
  clear hb hl
  go_enter Tryd.func11, Tryd.ntmps11
  go_wp2_with fail
  refine (framed_any lv l w hN HL.out).mono ?_
  rintro e w1 ⟨v1, rfl, O1, K1⟩
  have HO1 := Lib.hid O1
  have HK1 := Lib.hid K1
  clear O1 K1
  go_wp2_with fail
  refine (readFrames_any bv b w1 (hN.go HK1.out) (HB.out.go HK1.out) hsz).mono ?_
  rintro e w2 ⟨v2, rfl, -, K2⟩
  have HK2 := Lib.hid (HK1.out.trans (K2.mono HK1.out.size))
  have HO2 := Lib.hid (HO1.out.below K2)
  have HF2 := Lib.hid HO2.out.bt
  have HFR := Lib.hid HO2.out.real
  have HB2 := Lib.hid ((HB.out.below HK2.out (Nat.le_refl _)).more HK2.out.size)
  clear HO1 HK1 K2
  have hlf := framedD_max l
  generalize hp : (framesN b).2 = p at *
  have HP := Lib.hid hp
  clear hp
  have OE := OB.empty (B := w2.heap.size) (Nat.le_refl w2.heap.size)
  have XE := (Below.refl w2.heap.size w2).alloc (Nat.le_refl _) (.cells #[] 5)
  have HOE := Lib.hid OE
  have HXE := Lib.hid XE
  clear OE XE
  obtain ⟨A1, c1, g1, rfl, -, -, -, -, -⟩ := HO2.out.open_
  generalize hq : (framedD l).length = q at *
  have HQ := Lib.hid hq
  clear hq
  by_cases hok : writeB l = true ∧ p + q ≤ 1200
  · have hW := hok.1
    have hle := hok.2
    have HYES : Hid (withOk b l = true) := Lib.hid (by unfold withOk; rw [hW, HP.out, HQ.out]; simp; omega)
    have HD := Lib.hid (withD_yes HYES.out)
    rw [HP.out] at HD
    have HT2 : Hid (Bt w2 w2.heap.size (headOf bv p) (b.take p)) := Lib.hid (HB2.out.head hr hn0)
    have hrh := hr.head p
    rw [hW]
    rcases hr with rfl | ⟨ad, m, c, rfl⟩
    all_goals
      have HC : Hid (_ = true) := HYES
      simp only [headOf] at HT2 hrh
    · obtain rfl : p = 0 := by have := HB2.out.slice_len; omega
      go_wp2_with (first
        | (at_builtin; refine wpList_append_bt rfl _ _ rfl w2.heap.size _ _ rfl HOE.out _ (b.take 0) rfl (HT2.out.below HXE.out (Nat.le_refl _)) hrh (by simp) HXE.out.size ?_; clear HOE; intro v3 w3 O3 G3; have HO3 := Lib.hid O3; have HG3 := Lib.hid (HXE.out.grown G3 HXE.out.size (fun r hr => by have h9 : w2.heap.size = r := (by injection hr); omega)); clear O3 G3)
        | (at_builtin; refine wpList_append_bt rfl _ _ rfl w2.heap.size v3 _ rfl HO3.out _ (framedD l) rfl (HF2.out.below HG3.out (Nat.le_refl _)) HFR.out (by rw [HQ.out]; simp; omega) HG3.out.size ?_; intro v4 w4 O4 G4; have HO4 := Lib.hid O4; have HG4 := Lib.hid (HG3.out.grown G4 HG3.out.size (fun r hr => (HO3.out.lt hr).1)); clear O4 G4))
      go_ret2
      exact ⟨_, ret_two rfl (bool_eq HYES.out.symm), by rw [HD.out]; exact (by simpa using HO4.out.base HK2.out.size), HK2.out.trans (HG4.out.mono HK2.out.size)⟩
    · have hpc : p ≤ c := by have := HB2.out.slice_len; omega
      go_wp2_with (first
        | (at_builtin; refine wpList_append_bt rfl _ _ rfl w2.heap.size _ _ rfl HOE.out _ (b.take p) rfl (HT2.out.below HXE.out (Nat.le_refl _)) hrh (by simp; omega) HXE.out.size ?_; clear HOE; intro v3 w3 O3 G3; have HO3 := Lib.hid O3; have HG3 := Lib.hid (HXE.out.grown G3 HXE.out.size (fun r hr => by have h9 : w2.heap.size = r := (by injection hr); omega)); clear O3 G3)
        | (at_builtin; refine wpList_append_bt rfl _ _ rfl w2.heap.size v3 _ rfl HO3.out _ (framedD l) rfl (HF2.out.below HG3.out (Nat.le_refl _)) HFR.out (by rw [HQ.out]; simp; omega) HG3.out.size ?_; intro v4 w4 O4 G4; have HO4 := Lib.hid O4; have HG4 := Lib.hid (HG3.out.grown G4 HG3.out.size (fun r hr => (HO3.out.lt hr).1)); clear O4 G4))
      go_ret2
      exact ⟨_, ret_two rfl (bool_eq HYES.out.symm), by rw [HD.out]; exact (by simpa using HO4.out.base HK2.out.size), HK2.out.trans (HG4.out.mono HK2.out.size)⟩
  · have HNO : Hid (withOk b l = false) := Lib.hid (by
      unfold withOk
      rw [HP.out, HQ.out]
      cases hw : writeB l
      · rfl
      · have : ¬ p + q ≤ 1200 := fun h => hok ⟨hw, h⟩
        simp [this])
    have HD := Lib.hid (withD_no HNO.out)
    by_cases hw : writeB l = true
    · have hgt : ¬ p + q ≤ 1200 := fun h => hok ⟨hw, h⟩
      rw [hw]
      clear hok
      rcases hr with rfl | ⟨ad, m, c, rfl⟩
      · go_wp2_with (first
          | (at_builtin; refine wpList_append_bt rfl _ _ rfl w2.heap.size _ _ rfl HOE.out _ b rfl (HB2.out.below HXE.out (Nat.le_refl _)) (.inl rfl) (by simp; omega) HXE.out.size ?_; clear HOE; intro v3 w3 O3 G3; have HO3 := Lib.hid O3; have HG3 := Lib.hid (HXE.out.grown G3 HXE.out.size (fun r hr => by have h9 : w2.heap.size = r := (by injection hr); omega)); clear O3 G3))
        go_ret2
        exact ⟨_, ret_two rfl (bool_eq HNO.out.symm), by rw [HD.out]; exact (by simpa using HO3.out.base HK2.out.size), HK2.out.trans (HG3.out.mono HK2.out.size)⟩
      · go_wp2_with (first
          | (at_builtin; refine wpList_append_bt rfl _ _ rfl w2.heap.size _ _ rfl HOE.out _ b rfl (HB2.out.below HXE.out (Nat.le_refl _)) (.inr ⟨_, _, _, rfl⟩) (by simp; omega) HXE.out.size ?_; clear HOE; intro v3 w3 O3 G3; have HO3 := Lib.hid O3; have HG3 := Lib.hid (HXE.out.grown G3 HXE.out.size (fun r hr => by have h9 : w2.heap.size = r := (by injection hr); omega)); clear O3 G3))
        go_ret2
        exact ⟨_, ret_two rfl (bool_eq HNO.out.symm), by rw [HD.out]; exact (by simpa using HO3.out.base HK2.out.size), HK2.out.trans (HG3.out.mono HK2.out.size)⟩
    · rw [Bool.eq_false_iff.2 hw]
      clear hok
      rcases hr with rfl | ⟨ad, m, c, rfl⟩
      · go_wp2_with (first
          | (at_builtin; refine wpList_append_bt rfl _ _ rfl w2.heap.size _ _ rfl HOE.out _ b rfl (HB2.out.below HXE.out (Nat.le_refl _)) (.inl rfl) (by simp; omega) HXE.out.size ?_; clear HOE; intro v3 w3 O3 G3; have HO3 := Lib.hid O3; have HG3 := Lib.hid (HXE.out.grown G3 HXE.out.size (fun r hr => by have h9 : w2.heap.size = r := (by injection hr); omega)); clear O3 G3))
        go_ret2
        exact ⟨_, ret_two rfl (bool_eq HNO.out.symm), by rw [HD.out]; exact (by simpa using HO3.out.base HK2.out.size), HK2.out.trans (HG3.out.mono HK2.out.size)⟩
      · go_wp2_with (first
          | (at_builtin; refine wpList_append_bt rfl _ _ rfl w2.heap.size _ _ rfl HOE.out _ b rfl (HB2.out.below HXE.out (Nat.le_refl _)) (.inr ⟨_, _, _, rfl⟩) (by simp; omega) HXE.out.size ?_; clear HOE; intro v3 w3 O3 G3; have HO3 := Lib.hid O3; have HG3 := Lib.hid (HXE.out.grown G3 HXE.out.size (fun r hr => by have h9 : w2.heap.size = r := (by injection hr); omega)); clear O3 G3))
        go_ret2
        exact ⟨_, ret_two rfl (bool_eq HNO.out.symm), by rw [HD.out]; exact (by simpa using HO3.out.base HK2.out.size), HK2.out.trans (HG3.out.mono HK2.out.size)⟩
end Go.Proofs.YtcpmkbemkhacnaaDoor
