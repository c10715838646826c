/-
  The walk of FnTorn.
-/
import Derived.Test.YtcpmkbemkhacnaaDoorGa
import Derived.Test.YtcpmkbemkhacnaaDoorA8
import Derived.Test.YtcpmkbemkhacnaaDoorPr
import Derived.Test.YtcpmkbemkhacnaaDoorFl
import Derived.Deep.RegionHeld3
import Derived.Deep.DeepCutAuto
set_option linter.unusedVariables false
namespace Go.Proofs.YtcpmkbemkhacnaaDoor
open Go.RowKit

theorem allOk_snoc {l : List RecD} {r : RecD} (h : allOk l = true) (hr : recOkB r = true) : allOk (l ++ [r]) = true := by
  unfold allOk at *
  simp [h, hr]
theorem clock_ok {a : Int} (h0 : 0 ≤ a) (h1 : a < 100000) : allOk [⟨8, a, 0⟩] = true := by
  unfold allOk
  simp only [List.all_cons, List.all_nil, Bool.and_true]
  exact recOkB_true.2 ⟨⟨by show (1 : Int) ≤ 8; decide, by show (8 : Int) ≤ 12; decide⟩, ⟨h0, by show a ≤ 1000000; omega⟩, ⟨by show (0 : Int) ≤ 0; decide, by show (0 : Int) ≤ 1000000; decide⟩⟩
theorem pod_ok {a b : Int} (h0 : 0 ≤ a) (h1 : a < 12) (h2 : 0 ≤ b) (h3 : b < 7) : recOkB ⟨2, a, b⟩ = true :=
  recOkB_true.2 ⟨⟨by show (1 : Int) ≤ 2; decide, by show (2 : Int) ≤ 12; decide⟩, ⟨h0, by show a ≤ 1000000; omega⟩, ⟨h2, by show b ≤ 1000000; omega⟩⟩

set_option maxRecDepth 100000 in
set_option maxHeartbeats 8000000 in
theorem lawTorn (A : Option Addr) (n c : Nat) (w : World) (hN : Names w) (hB : Bytes w w.heap.size A n) (hn : n ≤ maxLen) :
    Calls Tryd.prog 3 #[.slice A n c] w fun e w' => e = .returned (.bool true) ∧ Below w.heap.size w w' := by
  have HN := Lib.hid hN
  have HB := Lib.hid hB
  have HM := Lib.hid hn
  obtain ⟨i0, hi, hz0, hz1, hz2⟩ := info_parts info_rec
  have HI := Lib.hid hi
  have HZ0 := Lib.hid hz0
  have HZ1 := Lib.hid hz1
  have HZ2 := Lib.hid hz2
  clear hi hz0 hz1 hz2
  obtain ⟨j0, hi, hz0, hz1, hz2⟩ := info_parts info_recs
  have HJ := Lib.hid hi
  have HY0 := Lib.hid hz0
  have HY1 := Lib.hid hz1
  have HY2 := Lib.hid hz2
  clear hi hz0 hz1 hz2 hN hB hn
  go_enter Tryd.func3, Tryd.ntmps3
  go_wp2_with fail
  refine (big_any A n c w HM.out).mono ?_
  rintro e w' ⟨rfl, rfl⟩
  by_cases hbig : (n : Int) ≤ 4096
  · have hn : n ≤ 4096 := by omega
    go_wp2_with fail
    refine (roll_any A n c 4 w HB.out hn).mono ?_
    rintro e w1 ⟨g, rfl, hg, C1, K1⟩
    have hgz := C1.lt
    go_wp2_with fail
    -- the store and the lists, empty
    have hβ0 : w.heap.size ≤ w1.heap.size := K1.size
    have OB1 := (OB.empty (B := w1.heap.size) (Nat.le_refl w1.heap.size)).below ((Below.refl _ _).alloc (Nat.le_refl _) (.cells #[] 31))
    have OS1 : OS ((w1.alloc (.cells #[] 5)).alloc (.cells #[] 31)) w1.heap.size (.slice (some ⟨w1.heap.size + 1, 0, none⟩) 0 0) [] := by
      have := OS.empty (w := w1.alloc (.cells #[] 5)) (B := w1.heap.size) (by simp)
      rwa [World.size_alloc] at this
    have X : Below w1.heap.size w1 ((w1.alloc (.cells #[] 5)).alloc (.cells #[] 31)) := ((Below.refl _ _).alloc (Nat.le_refl _) _).alloc (by simp) _
    have C2 := (C1.alloc (.cells #[] 5)).alloc (.cells #[] 31)
    have K2 := K1.trans (X.mono K1.size)
    have hβ2 := X.size
    have hsz2 : ((w1.alloc (.cells #[] 5)).alloc (.cells #[] 31)).heap.size = w1.heap.size + 2 := by simp
    generalize hw2 : (w1.alloc (.cells #[] 5)).alloc (.cells #[] 31) = w2 at *
    clear hw2 C1 K1 X
    generalize hβ : w1.heap.size = β at *
    clear hβ
    refine (below_any g 4 w2 C2 (by decide) (by decide)).mono ?_
    rintro e w3 ⟨z, rfl, z0, z1, C3, k3⟩
    have OB3 := OB1.keeps k3 (by rintro r hr rfl; omega)
    have OS3 : OS w3 β (.slice (some ⟨β + 1, 0, none⟩) 0 0) [] := by
      obtain ⟨vs, h⟩ := OS1.allAt
      exact (h.keeps k3 (by rintro r hr _ rfl; omega)).os
    have K3 := K2.trans (k3.below (B := w.heap.size) K2.size (by rintro b hb rfl; omega))
    have hβ3 := Nat.le_trans hβ2 k3.size
    clear OB1 OS1 C2 K2 k3 hβ2 hsz2
    go_wp2_with fail
    go_loopw [4, 5, 6] (fun s4 s5 s6 wr => ∃ (z : Int) (Lb : List Nat) (ls : List (List RecD)), s6 = .int .i64 z ∧ -1 ≤ z ∧ z ≤ 3 ∧ OB wr β s4 Lb ∧ OS wr β s5 ls ∧ Hid (framesN Lb = (ls, Lb.length)) ∧ (Lb.length : Int) + 34 * (z + 1) ≤ 136 ∧ (ls.length : Int) + z ≤ 3 ∧ Cur 53 .u64 wr g ∧ Below w.heap.size w wr ∧ β ≤ wr.heap.size) (fun _ _ s6 _ => (intOf s6 + 1).toNat)
    case atStart => exact ⟨z, [], [], rfl, by omega, by omega, OB3, OS3, Lib.hid framesN_nil, by simp; omega, by simp; omega, C3, K3, hβ3⟩
    case round =>
      clear OB3 OS3 C3 K3 hβ3 z0 z1
      obtain ⟨z, Lb, ls, rfl, z0, z1, O0, OS0, HF, hsz, hls, C0, K0, hβ0⟩ := hrel
      obtain ⟨vs, A0⟩ := OS0.allAt
      clear OS0
      by_cases hz : 0 ≤ z
      · obtain ⟨A5, c5, rfl⟩ := A0.os.shape
        obtain ⟨A4, c4, g4, rfl, -⟩ := O0.open_
        have HLO : Hid (∀ r, (Value.slice A4 Lb.length c4).ownBlock = some r → r < wr.heap.size) := Lib.hid fun r hr => (O0.lt hr).2
        go_wp2_with fail
        refine (below_any g 100000 wr C0 (by decide) (by decide)).mono ?_
        rintro e w4 ⟨a, rfl, a0, a1, C4, k4⟩
        have O4 := O0.keeps k4 (by rintro r hr rfl; omega)
        have A4' := A0.keeps k4 (by rintro r hr _ rfl; omega)
        have K4 := K0.trans (k4.below (B := w.heap.size) K0.size (by rintro b hb rfl; omega))
        have hT4 := k4.size
        generalize wr.heap.size = T at *
        have hβ4 := Nat.le_trans hβ0 hT4
        clear O0 A0 C0 K0 k4
        go_wp2_with fail
        have OR5 := OR.one (w := w4) (B := T) hT4 ⟨8, a, 0⟩
        dsimp only at OR5
        have X : Below w4.heap.size w4 (w4.alloc (.cells #[.int .i64 8, .int .i64 a, .int .i64 0] 30)) := (Below.refl _ _).alloc (Nat.le_refl _) _
        have C5 := C4.below X
        have O5 := O4.below X
        have A5' := A4'.below X
        have K5 := K4.trans (X.mono K4.size)
        have hT5 := Nat.le_trans hT4 X.size
        generalize hw5 : w4.alloc (.cells #[.int .i64 8, .int .i64 a, .int .i64 0] 30) = w5 at *
        clear hw5 C4 O4 A4' K4 X
        generalize w4.heap.size = s5 at *
        refine (below_any g 3 w5 C5 (by decide) (by decide)).mono ?_
        rintro e w6 ⟨k, rfl, k0, k1, C6, k6⟩
        have O6 := O5.keeps k6 (by rintro r hr rfl; omega)
        have A6 := A5'.keeps k6 (by rintro r hr _ rfl; omega)
        have OR6 := OR5.keepIt k6 (by rintro r hr rfl; omega)
        have K6 := K5.trans (k6.below (B := w.heap.size) K5.size (by rintro b hb rfl; omega))
        have hT6 := Nat.le_trans hT5 k6.size
        clear O5 A5' OR5 C5 K5 k6 hT5 hT4 hβ4
        have HOK := Lib.hid (clock_ok a0 a1)
        go_wp2_with fail
        go_loopw [7, 8] (fun s7 s8 wr => ∃ (k : Int) (l : List RecD), s8 = .int .i64 k ∧ 0 ≤ k ∧ (l.length : Int) + k ≤ 3 ∧ Hid (allOk l = true) ∧ OR wr T s7 l ∧ AllAt wr β T (.slice A5 ls.length c5) ls vs ∧ OB wr β (.slice A4 Lb.length c4) Lb ∧ Cur 53 .u64 wr g ∧ Below w.heap.size w wr) (fun _ s8 _ => (intOf s8).toNat)
        case atStart => exact ⟨k, _, rfl, k0, by simp; omega, HOK, OR6, A6, O6, C6, K6⟩
        case round =>
          clear OR6 A6 O6 C6 K6 HOK k0 k1 hT6
          obtain ⟨k, l, rfl, k0, k1, HL, OR7, A7, O7, C7, K7⟩ := hrel
          have hT7 := A7.top
          by_cases hk : 0 < k
          · go_wp2_with fail
            refine (below_any g 12 _ C7 (by decide) (by decide)).mono ?_
            rintro e w8 ⟨x, rfl, x0, x1, C8, k8⟩
            have O8 := O7.keeps k8 (by rintro r hr rfl; omega)
            have A8 := A7.keeps k8 (by rintro r hr _ rfl; omega)
            have OR8 := OR7.keepIt k8 (by rintro r hr rfl; omega)
            have K8 := K7.trans (k8.below (B := w.heap.size) K7.size (by rintro b hb rfl; omega))
            clear O7 A7 OR7 C7 K7 k8
            go_wp2_with fail
            refine (below_any g 7 _ C8 (by decide) (by decide)).mono ?_
            rintro e w9 ⟨y, rfl, y0, y1, C9, k9⟩
            have O9 := O8.keeps k9 (by rintro r hr rfl; omega)
            have A9 := A8.keeps k9 (by rintro r hr _ rfl; omega)
            have HOR9 := Lib.hid (OR8.keepIt k9 (by rintro r hr rfl; omega))
            have K9 := K8.trans (k9.below (B := w.heap.size) K8.size (by rintro b hb rfl; omega))
            have hT9 := A9.top
            clear O8 A8 OR8 C8 K8 k9 hT7
            have HP := Lib.hid (pod_ok x0 x1 y0 y1)
            have h63 : Hid (l.length + 1 ≤ maxLen) := Lib.hid (by unfold maxLen; omega)
            have hby : Hid ((l.length + 1) * 24 ≤ 140737488355328) := Lib.hid (by omega)
            go_wp2_with ((at_builtin; refine wpList_append_own _ rfl _ _ 31 rfl T 30 i0 (.agg #[.int .i64 0, .int .i64 0, .int .i64 0]) 3 24 Tryd.underlying31 HI.out HZ0.out HZ1.out HZ2.out rfl (by decide) _ _ _ rfl (ownsRow_below HOR9.out ((Below.refl _ _).alloc (Nat.le_refl _) _)) ⟨w9.heap.size, 0, none⟩ 1 1 [.int .i64 2, .int .i64 x, .int .i64 y] rfl rfl (World.news_of_block (cs := #[.int .i64 2, .int .i64 x, .int .i64 y]) (heap_alloc_new w9 _)) (by simp [Value.oneCell']) h63.out hby.out (by simp; omega) ?_; intro v' w10 hown' hgrow hnil))
            have hgrow' : World.grownBy (w9.alloc (.cells #[.int .i64 2, .int .i64 x, .int .i64 y] 30)) w10 u7.ownBlock := hgrow
            clear hgrow hnil
            have hk10 : Keeps (fun b => u7.ownBlock = some b) w9 w10 := (Keeps.of_below ((Below.refl _ _).alloc (Nat.le_refl _) _)).trans (Keeps.of_grown hgrow')
            have hu7 : ∀ r, u7.ownBlock = some r → T ≤ r := fun r hr => (HOR9.out.lt hr).1
            refine ⟨⟨k - 1, l ++ [⟨2, x, y⟩], rfl, by omega, by simp; omega, Lib.hid (allOk_snoc HL.out HP.out), OR.push ⟨2, x, y⟩ hown', A9.keeps hk10 (fun r _ h1 h2 => by have := hu7 r h2; omega), O9.keepV hk10 (fun r h1 h2 => by have := hu7 r h2; have := HLO.out r h1; omega), (C9.alloc _).grown hgrow' (fun r hr => by have := hu7 r hr; omega), (K9.alloc K9.size _).grown hgrow' (by have := K9.size; simp; omega) (fun r hr => by have := hu7 r hr; omega)⟩, by simp [intOf]; omega⟩
          · obtain rfl : k = 0 := by omega
            have HL7 : l.length ≤ 3 := by omega
            have hwb : writeB l = true := by unfold writeB; rw [HL.out]; simp; omega
            have hfl := framedD_few hwb
            have hfp := framedD_len hwb
            obtain ⟨t1, t2, t3, t4⟩ := torn_round HF.out hwb (by omega)
            have HWB := Lib.hid hwb
            have HT1 := Lib.hid t1
            have HT2 := Lib.hid t2
            have HT3 := Lib.hid t3
            have HT4 := Lib.hid t4
            clear hwb t1 t2 t3 t4
            obtain ⟨A7', c7, g7, rfl, -⟩ := OR7.open_
            go_wp2_with fail
            refine (withFrame_any _ _ Lb l wr (HN.out.go K7) O7.bt OR7.rt O7.real (by omega)).mono ?_
            rintro e w8 ⟨v9, rfl, O8, hb8⟩
            rw [HT1.out]
            rw [HT2.out] at O8
            have OR8 := OR7.below hb8
            have A8 := A7.below hb8
            have P8 := O7.below hb8
            have C8 := C7.below hb8
            have K8 := K7.trans (hb8.mono K7.size)
            have hz8 := Nat.le_trans hT7 hb8.size
            clear OR7 A7 O7 C7 K7 hb8
            generalize hT9 : wr.heap.size = T9 at *
            clear hT9
            go_wp2_with fail
            refine (framed_any _ l w8 (HN.out.go K8) OR8.rt).mono ?_
            rintro e w9 ⟨v11, rfl, O9, hb9⟩
            rw [HWB.out]
            have OR9 := OR8.below hb9
            have A9 := A8.below hb9
            have P9 := P8.below hb9
            have Q9 := O8.below hb9
            have C9 := C8.below hb9
            have K9 := K8.trans (hb9.mono K8.size)
            have hz9 := Nat.le_trans hz8 hb9.size
            clear OR8 A8 P8 O8 C8 K8 hb9 hz8
            obtain ⟨X9, c9, s9, rfl, hc9, hX9, hl9, -⟩ := Q9.open_
            obtain ⟨X8, c8, s8, rfl, -⟩ := O9.open_
            obtain rfl := hX9 (by rw [List.length_append]; omega)
            clear hX9
            have hx := conv_bt Q9.bt
            have hb := conv_bt P9.bt
            have hf := conv_bt O9.bt
            rw [strOf_append] at hx
            have hsb : (strOf Lb).size ≤ 200 := by rw [strOf_size]; omega
            have hsf : (strOf (framedD l)).size ≤ 200 := by rw [strOf_size]; omega
            have hss : ((strOf Lb).size : Int) + ((strOf (framedD l)).size : Int) ≤ 9223372036854775807 := by omega
            generalize strOf Lb = sb at *
            generalize strOf (framedD l) = sf at *
            rw [List.length_append] at *
            generalize hq : (framedD l).length = q at *
            have HQ := Lib.hid hq
            clear hq
            generalize hp : Lb.length = p at *
            have HP := Lib.hid hp
            clear hp
            have hq0 : 0 < q := by omega
            have hq1 : q ≤ 34 := by omega
            clear hfp hfl
            go_wp2_with fail
            refine (below_any g q w9 C9 (by omega) (by omega)).mono ?_
            rintro e w10 ⟨x, rfl, x0, x1, C10, k10⟩
            obtain ⟨x, rfl⟩ := Int.eq_ofNat_of_zero_le x0
            have OR10 := OR9.keepIt k10 (by rintro r hr rfl; omega)
            have A10 := A9.keeps k10 (by rintro r hr _ rfl; omega)
            have P10 := P9.keeps k10 (by rintro r hr rfl; omega)
            have Q10 := Q9.keeps k10 (by rintro r hr rfl; omega)
            have K10 := K9.trans (k10.below (B := w.heap.size) K9.size (by rintro b hb rfl; omega))
            have hz10 := Nat.le_trans hz9 k10.size
            clear OR9 A9 P9 Q9 O9 C9 K9 k10 hx hb hf hz9
            have HR := Lib.hid (HT4.out x (by omega))
            have BT10 := Q10.bt.take (k := p + x) (by have := HP.out; have := HQ.out; rw [List.length_append]; omega) (c' := c9) (by omega)
            go_wp2_with fail
            refine (readFrames_any _ _ w10 (HN.out.go K10) BT10 (by have := HP.out; have := HQ.out; rw [List.length_take]; omega)).mono ?_
            rintro e w11 ⟨v14, rfl, O14, hb11⟩
            rw [HR.out] at O14 ⊢
            dsimp only at O14 ⊢
            have OR11 := OR10.below hb11
            have A11 := A10.below hb11
            have P11 := P10.below hb11
            have Q11 := Q10.below hb11
            have C11 := C10.below hb11
            have K11 := K10.trans (hb11.mono K10.size)
            have hz11 := Nat.le_trans hz10 hb11.size
            clear OR10 A10 P10 Q10 C10 K10 hb11 hz10 BT10 HR
            obtain ⟨A14, c14, rfl⟩ := O14.shape
            clear O14
            have h63 : Hid (ls.length + 1 ≤ maxLen) := Lib.hid (by unfold maxLen; omega)
            have hby : Hid ((ls.length + 1) * 24 ≤ 140737488355328) := Lib.hid (by omega)
            have HA11 := Lib.hid A11
            have HOR11 := Lib.hid OR11
            have hls' : (ls.length : Int) ≤ 9223372036854775807 := by omega
            clear A11 OR11
            go_wp2_with ((at_builtin; refine wpList_append_own _ rfl _ _ 27 rfl β 31 j0 (.slice none 0 0) 1 24 Tryd.underlying27 HJ.out HY0.out HY1.out HY2.out rfl (by decide) _ _ _ rfl (ownsRow_below HA11.out.row ((Below.refl _ _).alloc (Nat.le_refl _) _)) ⟨w11.heap.size, 0, none⟩ 1 1 [.slice A7' l.length c7] rfl rfl (cell_one_new _ _ _) (fun x hx => by simp at hx; subst hx; rfl) h63.out hby.out (by simp; omega) ?_; intro v' w12 hown' hgrow hnil))
            have hgrow' : World.grownBy (w11.alloc (.cells #[.slice A7' l.length c7] 31)) w12 (Value.slice A5 ls.length c5).ownBlock := hgrow
            clear hgrow hnil
            have hk12 : Keeps (fun b => (Value.slice A5 ls.length c5).ownBlock = some b) w11 w12 := (Keeps.of_below ((Below.refl _ _).alloc (Nat.le_refl _) _)).trans (Keeps.of_grown hgrow')
            have hlo := HA11.out.low
            have hro : ∀ r, (Value.slice A5 ls.length c5).ownBlock = some r → β ≤ r := fun r hr => (World.ownsRow.lt HA11.out.row r hr).1
            have O12 := Q11.keepV hk12 (fun r h1 h2 => by have := hlo r h2; have h9 : s9 = r := (by injection h1); omega)
            have OS12 := OS.push HA11.out.row HA11.out.seg HA11.out.top HOR11.out hk12 hown'
            have hlen : (Lb ++ framedD l).length = p + q := by rw [List.length_append, HP.out, HQ.out]
            refine ⟨⟨z - 1, Lb ++ framedD l, ls ++ [l], rfl, by omega, by omega, O12.base (by omega), OS12, Lib.hid (by rw [hlen]; exact HT3.out), by rw [hlen]; push_cast; omega, by simp; omega, (C11.alloc _).grown hgrow' (fun r hr => by have := hro r hr; omega), (K11.alloc K11.size _).grown hgrow' (by have := K11.size; simp; omega) (fun r hr => by have := hro r hr; omega), Nat.le_trans (Nat.le_trans hβ0 (Nat.le_trans hz11 (by simp))) hgrow'.size⟩, by simp [intOf]; omega⟩
      · obtain rfl : z = -1 := by omega
        have hl4 : (ls.length : Int) ≤ 4 := by omega
        obtain ⟨A5, c5, rfl⟩ := A0.os.shape
        obtain ⟨A4, c4, g4, rfl, -⟩ := O0.open_
        clear C0
        go_wp2_with fail
        refine (readFrames_any _ Lb wr (HN.out.go K0) O0.bt (by omega)).mono ?_
        rintro e w4 ⟨v4, rfl, O4, hb4⟩
        rw [HF.out] at O4 ⊢
        dsimp only at O4 ⊢
        have AS := A0.os.below hb4
        have K4 := K0.trans (hb4.mono K0.size)
        obtain ⟨A14, c14, rfl⟩ := O4.shape
        have H := Lib.hid O4.st
        have H' := Lib.hid AS.st
        clear O0 A0 K0 hb4 O4 AS
        generalize hq : ls.length = q at *
        have HQ := Lib.hid hq
        clear hq
        go_wp2_with fail
        go_loopw [18] (fun i wr => ∃ k : Nat, k ≤ q ∧ i = .int .i64 k ∧ Below w4.heap.size w4 wr) (fun i _ => q - (intOf i).toNat)
        case atStart => exact ⟨0, Nat.zero_le _, rfl, Below.refl _ _⟩
        case round =>
          obtain ⟨k, hk, rfl, K⟩ := hrel
          by_cases hlt : k < q
          · obtain ⟨b, off, u, rfl, hb, q0, hr⟩ := ((H.out.below K (Nat.le_refl _)).more K.size).cell (i := k) (by rw [HQ.out]; exact hlt)
            obtain ⟨b', off', u', rfl, hb', r0, hr'⟩ := ((H'.out.below K (Nat.le_refl _)).more K.size).cell (i := k) (by rw [HQ.out]; exact hlt)
            have HR := Lib.hid hr
            have HR' := Lib.hid hr'
            have HBB := Lib.hid hb
            have HBB' := Lib.hid hb'
            obtain ⟨⟨a, ca, rfl, -⟩, -⟩ := hr
            obtain ⟨⟨a', ca', rfl, -⟩, -⟩ := hr'
            generalize listAt ls k = l at *
            clear hb hb'
            have S0 : wr.cell? ⟨b, off + k, none⟩ = some (.slice a l.length ca) ∧ wr.cell? ⟨b', off' + k, none⟩ = some (.slice a' l.length ca') ∧ Below w4.heap.size w4 wr := ⟨q0, r0, K⟩
            clear q0 r0
            go_wp2_with fail
            go_region_held3 (fun w' => w'.cell? ⟨b, off + k, none⟩ = some (.slice a l.length ca) ∧ w'.cell? ⟨b', off' + k, none⟩ = some (.slice a' l.length ca') ∧ Below w4.heap.size w4 w')
              (first | exact S0 | exact S1 | exact ⟨S0.1, S0.2.1, S0.2.2.drew⟩)
              (first
                | (go_at_call 14
                   refine (likeRecs_same _ _ l _ (HR.out.go (Below.refl _ _).drew) (HR'.out.go (Below.refl _ _).drew)).mono ?_
                   rintro e w2 ⟨rfl, hb2⟩
                   have S1 : w2.cell? ⟨b, off + k, none⟩ = some (.slice a l.length ca) ∧ w2.cell? ⟨b', off' + k, none⟩ = some (.slice a' l.length ca') ∧ Below w4.heap.size w4 w2 :=
                     ⟨(hb2.cell (p := ⟨b, off + k, none⟩) HBB.out).trans S0.1, (hb2.cell (p := ⟨b', off' + k, none⟩) HBB'.out).trans S0.2.1, K.drew.trans (hb2.mono K.size)⟩))
            have K2 := S1.2.2
            clear S0 S1
            go_wp2
            exact ⟨⟨k + 1, by omega, by go_num, K2⟩, by simp [intOf]; omega⟩
          · obtain rfl : k = q := by omega
            go_wp2
            go_ret
            exact ⟨rfl, K4.trans (K.mono K4.size)⟩
  · go_wp2_with fail
    go_ret
    exact ⟨rfl, Below.refl _ _⟩
end Go.Proofs.YtcpmkbemkhacnaaDoor
