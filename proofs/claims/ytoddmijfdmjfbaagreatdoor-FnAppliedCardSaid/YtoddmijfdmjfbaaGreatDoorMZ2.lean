/-
  The model's draws of records, of lists, of bytes.
-/
import Derived.Test.YtoddmijfdmjfbaaGreatDoorMZ1
import Derived.Deep.RegionHeld3
import Derived.BigQuiet
import Derived.Deep.QuietTactic
import Derived.Deep.AppendLies
import Derived.Laws.AppendOwnNone
import Derived.Test.YtoddmijfdmjfbaaGreatDoorMZ0
import Derived.Sort.Row
import Derived.RegionTactic
import Derived.BigRegion
import Derived.Lib.SliceRun
import Derived.Deep.RegionLaw
/- BeS -/
set_option linter.unusedVariables false
namespace Go.Proofs.YtoddmijfdmjfbaaGreatDoor
open Go.RowKit

theorem allOk_take {l : List RecD} {k : Nat} (h : allOk (l.take k) = true) (hk : k < l.length) : allOk (l.take (k + 1)) = recOkB (recAt l k) := by
  unfold allOk at *
  rw [List.take_succ_eq_append_getElem hk, List.all_append, h]
  simp [recAt, List.getD, hk]
theorem allOk_cut {l : List RecD} {k : Nat} (h : allOk l = true) : allOk (l.take k) = true := by
  unfold allOk at *
  rw [List.all_eq_true] at *
  exact fun x hx => h x (List.mem_of_mem_take hx)

set_option maxRecDepth 100000 in
set_option maxHeartbeats 4000000 in
theorem specRecBytes_any (v : Value) (l : List RecD) (w : World) (h : Rt w w.heap.size v l) :
    Calls Tryz.prog 106 #[v] w (Wrote l w) := by
  have H := Lib.hid h
  obtain ⟨⟨A, c, rfl, -⟩, hl⟩ := h
  have hl' : l.length ≤ 2 ^ 63 - 1 := by unfold maxLen at hl; omega
  clear hl
  generalize hq : l.length = q at *
  have HQ := Lib.hid hq
  clear hq
  by_cases h80 : q ≤ 80
  · go_enter Tryz.func106, Tryz.ntmps106
    go_wp2_with fail
    have O1 : OB (w.alloc (.cells #[] 5)) w.heap.size (.slice (some ⟨w.heap.size, 0, none⟩) 0 0) [] := OB.empty (Nat.le_refl _)
    refine (put_any _ [] q w.heap.size _ O1 (by simp) (by omega) (by simp)).mono ?_
    rintro e w2 ⟨v2, rfl, O2, K2⟩
    have O2 : OB w2 w.heap.size v2 (putN q) := by simpa using O2
    have K2 := ((Below.refl w.heap.size w).alloc (Nat.le_refl _) (.cells #[] 5)).trans K2
    clear O1
    go_wp2_with fail
    go_loopw [4, 5] (fun s4 s5 wr => ∃ k : Nat, k ≤ q ∧ s5 = .int .i64 k ∧ allOk (l.take k) = true ∧ OB wr w.heap.size s4 (putN q ++ recsN (l.take k)) ∧ Below w.heap.size w wr) (fun _ s5 _ => q - (intOf s5).toNat)
    case atStart => exact ⟨0, Nat.zero_le _, rfl, rfl, by simpa [recsN] using O2, K2⟩
    case round =>
      clear O2 K2
      obtain ⟨k, hk, rfl, hall, O, K⟩ := hrel
      have HA := Lib.hid hall
      clear hall
      by_cases hlt : k < q
      · obtain ⟨b, off, rfl, hb, q0, q1, q2⟩ := (H.out.below K (Nat.le_refl _)).cell (i := k) (by rw [HQ.out]; exact hlt)
        have HT := Lib.hid (recsN_take (l := l) (k := k) (by rw [HQ.out]; exact hlt))
        have HR := Lib.hid (allOk_take HA.out (by rw [HQ.out]; exact hlt))
        have hlen : (putN q ++ recsN (l.take k)).length ≤ 1000 := by
          have h1 := putN_len3 (n := q) (by omega)
          have h2 := recsN_len HA.out
          rw [List.length_take] at h2
          rw [List.length_append]
          omega
        have HLEN := Lib.hid hlen
        generalize hrr : recAt l k = r at *
        have HRR := Lib.hid hrr
        have HO := Lib.hid O
        have HK := Lib.hid K
        clear O K hlen hrr
        cases hok : recOkB r
        · have HOK := Lib.hid hok
          clear hok
          go_wp2_with fail
          refine (specRecOk_any r _).mono ?_
          rintro e w3 ⟨rfl, hb3⟩
          rw [HOK.out]
          go_wp2_with fail
          go_ret2
          have hW : writeB l = false := by
            cases hw : writeB l
            · rfl
            · have := allOk_get (writeB_true hw).2 (k := k) (by rw [HQ.out]; exact hlt)
              rw [HRR.out, HOK.out] at this
              cases this
          refine ⟨_, ret_two rfl (bool_eq hW.symm), ?_, (HK.out.trans (hb3.mono HK.out.size)).alloc (Nat.le_trans HK.out.size hb3.size) _⟩
          rw [wroteN_no hW]
          exact OB.empty (Nat.le_trans HK.out.size hb3.size)
        · have HOK := Lib.hid hok
          obtain ⟨rk, ra, rb⟩ := r
          have hr := recOkB_true.1 hok
          dsimp only at hr q0 q1 q2
          obtain ⟨nk, rfl⟩ := Int.eq_ofNat_of_zero_le (show 0 ≤ rk by omega)
          obtain ⟨na, rfl⟩ := Int.eq_ofNat_of_zero_le (show 0 ≤ ra by omega)
          obtain ⟨nb, rfl⟩ := Int.eq_ofNat_of_zero_le (show 0 ≤ rb by omega)
          clear hok
          go_wp2_with fail
          refine (specRecOk_any ⟨nk, na, nb⟩ _).mono ?_
          rintro e w3 ⟨rfl, hb3⟩
          rw [HOK.out]
          have q0 := (hb3.cell (p := ⟨b, off + k * 3, none⟩) (by have := HK.out.size; show b < _; omega)).trans q0
          have q1 := (hb3.cell (p := ⟨b, off + k * 3 + 1, none⟩) (by have := HK.out.size; show b < _; omega)).trans q1
          have q2 := (hb3.cell (p := ⟨b, off + k * 3 + 2, none⟩) (by have := HK.out.size; show b < _; omega)).trans q2
          have HO := Lib.hid (HO.out.below hb3)
          have HK := Lib.hid (HK.out.trans (hb3.mono HK.out.size))
          go_wp2_with fail
          have S3 : w3.cell? ⟨b, off + k * 3, none⟩ = some (.int .i64 nk) ∧ w3.cell? ⟨b, off + k * 3 + 1, none⟩ = some (.int .i64 na) ∧ w3.cell? ⟨b, off + k * 3 + 2, none⟩ = some (.int .i64 nb) := ⟨q0, q1, q2⟩
          have c0 : Hid (∀ w4 : World, Below w.heap.size w3 w4 → w4.cell? ⟨b, off + k * 3, none⟩ = some (.int .i64 nk) ∧ w4.cell? ⟨b, off + k * 3 + 1, none⟩ = some (.int .i64 na) ∧ w4.cell? ⟨b, off + k * 3 + 2, none⟩ = some (.int .i64 nb)) := Lib.hid fun w4 h4 =>
            ⟨(h4.cell (p := ⟨b, off + k * 3, none⟩) hb).trans q0, (h4.cell (p := ⟨b, off + k * 3 + 1, none⟩) hb).trans q1, (h4.cell (p := ⟨b, off + k * 3 + 2, none⟩) hb).trans q2⟩
          have hsz := HK.out.size
          have hnk : nk < 2097152 := by omega
          have hna : na < 2097152 := by omega
          have hnb : nb < 2097152 := by omega
          have hl1 := HLEN.out
          have hl2 : ((putN q ++ recsN (l.take k)) ++ putN nk).length ≤ 2000 := by rw [List.length_append]; have := putN_len3 hnk; omega
          have hl3 : (((putN q ++ recsN (l.take k)) ++ putN nk) ++ putN na).length ≤ 3000 := by rw [List.length_append]; have := putN_len3 hna; omega
          have HL1 := Lib.hid hl1
          have HL2 := Lib.hid hl2
          have HL3 := Lib.hid hl3
          clear hl1 hl2 hl3 q0 q1 q2
          go_region_held3 (fun w' => w'.cell? ⟨b, off + k * 3, none⟩ = some (.int .i64 nk) ∧ w'.cell? ⟨b, off + k * 3 + 1, none⟩ = some (.int .i64 na) ∧ w'.cell? ⟨b, off + k * 3 + 2, none⟩ = some (.int .i64 nb))
            (first | exact S3 | exact S4 | exact S5 | exact S6)
            (first
              | (have hq := O5
                 clear hq
                 go_at_call 119
                 refine (put_any v5 _ nb w.heap.size _ O5.out (Nat.le_trans hsz (Nat.le_trans K4.out.size K5.out.size)) hnb (Nat.le_trans HL3.out (by decide))).mono ?_
                 rintro e w6 ⟨v6, rfl, O6, K6⟩
                 have O6 := Lib.hid O6
                 have K6 := Lib.hid K6
                 have S6 := c0.out _ ((K4.out.trans K5.out).trans K6.out))
              | (have hq := O4
                 clear hq
                 go_at_call 119
                 refine (put_any v4 _ na w.heap.size _ O4.out (Nat.le_trans hsz K4.out.size) hna (Nat.le_trans HL2.out (by decide))).mono ?_
                 rintro e w5 ⟨v5, rfl, O5, K5⟩
                 have O5 := Lib.hid O5
                 have K5 := Lib.hid K5
                 have S5 := c0.out _ (K4.out.trans K5.out))
              | (go_at_call 119
                 refine (put_any _ _ nk w.heap.size _ (HO.out.below (Below.refl _ _).drew) hsz hnk (Nat.le_trans HL1.out (by decide))).mono ?_
                 rintro e w4 ⟨v4, rfl, O4, K4⟩
                 have O4 := Lib.hid O4
                 have K4 := Lib.hid ((Below.refl w.heap.size w3).drew.trans K4)
                 have S4 := c0.out _ K4.out))
          clear S3 S4 S5 S6 c0
          have HT6 := Lib.hid ((K4.out.trans K5.out).trans K6.out)
          go_wp2_with fail
          refine ⟨⟨k + 1, by omega, by go_num, by rw [HR.out]; exact HOK.out, ?_, HK.out.trans HT6.out⟩, by simp [intOf]; omega⟩
          rw [HT.out]
          have := O6.out
          simpa [recN] using this
      · obtain rfl : k = q := by omega
        go_wp2
        go_ret2
        have e1 : l.take k = l := List.take_of_length_le (by rw [HQ.out]; exact Nat.le_refl _)
        have hA := HA.out
        rw [e1] at O hA
        have hW : writeB l = true := by simp [writeB, HQ.out, h80, hA]
        refine ⟨_, ret_two rfl (bool_eq hW.symm), ?_, K⟩
        rw [wroteN_yes hW, HQ.out]
        exact O
  · have hW : Hid (writeB l = false) := Lib.hid (by simp [writeB, HQ.out, h80])
    go_enter Tryz.func106, Tryz.ntmps106
    go_wp2_with fail
    go_ret2
    refine ⟨_, ret_two rfl (bool_eq hW.out.symm), ?_, (Below.refl _ _).alloc (Nat.le_refl _) _⟩
    rw [wroteN_no hW.out]
    exact OB.empty (Nat.le_refl _)
end Go.Proofs.YtoddmijfdmjfbaaGreatDoor
/- Ea -/
set_option linter.unusedVariables false
namespace Go.Proofs.YtoddmijfdmjfbaaGreatDoor
open Go.RowKit

theorem sumN_take {L : List Nat} {k : Nat} (hk : k < L.length) : sumN (L.take (k + 1)) = (31 * sumN (L.take k) + L.getD k 0) % 65521 := by
  rw [List.take_succ_eq_append_getElem hk]
  unfold sumN
  rw [List.foldl_append]
  simp [List.getD, hk]
theorem at2_drop (L : List Nat) (p i : Nat) : at2 (L.drop p) i = at2 L (p + i) := by
  unfold at2
  rw [getD_drop, getD_drop, Nat.add_assoc]
theorem at2_lt {L : List Nat} (h : SmallB L) (i : Nat) : at2 L i < 65536 := by
  have h0 := h.getD i
  have h1 := h.getD (i + 1)
  unfold at2
  omega

set_option maxHeartbeats 1000000 in
theorem specSumOf_any (v : Value) (L : List Nat) (w : World) (h : Bt w w.heap.size v L) :
    Calls Tryz.prog 108 #[v] w fun e w' => e = .returned (.int .i64 (sumN L)) ∧ w = w' := by
  have H := Lib.hid h
  obtain ⟨⟨A, c, rfl, hcap, -⟩, hl, hs⟩ := h
  have HS := Lib.hid hs
  have hl' : L.length ≤ 2 ^ 63 - 1 := by unfold maxLen at hl; omega
  clear hs hl hcap
  generalize hn : L.length = n at *
  have HN := Lib.hid hn
  clear hn
  go_enter Tryz.func108, Tryz.ntmps108
  go_wp2
  go_loop [3, 4] (fun s3 s4 => ∃ k : Nat, k ≤ n ∧ s4 = .int .i64 k ∧ s3 = .int .i64 (sumN (L.take k))) (fun _ s4 => n - (intOf s4).toNat)
  case atStart => exact ⟨0, Nat.zero_le _, rfl, rfl⟩
  case round =>
    obtain ⟨k, hk, rfl, rfl⟩ := hrel
    by_cases hlt : k < n
    · obtain ⟨b, off, rfl, hb, q⟩ := H.out.cell (k := k) (by rw [HN.out]; exact hlt)
      have zlt := HS.out.getD k
      have hsum := Lib.hid (sumN_take (L := L) (k := k) (by rw [HN.out]; exact hlt))
      have slt := sumN_lt (L.take k)
      generalize L.getD k 0 = z at *
      generalize sumN (L.take k) = s at *
      go_wp2
      refine ⟨⟨k + 1, by omega, by go_num, ?_⟩, by simp [intOf]; omega⟩
      rw [hsum.out]
      go_num
    · obtain rfl : k = n := by omega
      have e1 := Lib.hid (show L.take k = L from List.take_of_length_le (by rw [HN.out]; exact Nat.le_refl _))
      go_wp2
      go_ret
      exact ⟨by rw [e1.out]; rfl, rfl⟩

end Go.Proofs.YtoddmijfdmjfbaaGreatDoor
/- Ek -/
set_option linter.unusedVariables false
namespace Go.Proofs.YtoddmijfdmjfbaaGreatDoor
open Go.RowKit

theorem OB.two {w : World} {B : Nat} (hB : B ≤ w.heap.size) {x y : Nat} (hx : x < 256) (hy : y < 256) : OB (w.alloc (.cells #[.int .u8 x, .int .u8 y] 5)) B (.slice (some ⟨w.heap.size, 0, none⟩) 2 2) [x, y] := by
  refine ⟨⟨rfl, .inr ⟨w.heap.size, 2, _, rfl, hB, heap_alloc_new w _, Nat.le_refl _, by unfold maxLen; decide, rfl, rfl⟩⟩, fun z hz => ?_⟩
  rcases List.mem_cons.1 hz with rfl | hz
  · exact hx
  · obtain rfl : z = y := by simpa using hz
    exact hy
set_option maxHeartbeats 400000 in
theorem l4Two_any (n : Nat) (w : World) (hn : n < 65536) :
    Calls Tryz.prog 107 #[.int .i64 n] w fun e w' => ∃ v, e = .returned v ∧ OB w' w.heap.size v (twoN n) ∧ Below w.heap.size w w' := by
  go_enter Tryz.func107, Tryz.ntmps107
  go_wp2
  go_ret
  refine ⟨_, rfl, ?_, (Below.refl _ _).alloc (Nat.le_refl _) _⟩
  have := OB.two (w := w) (Nat.le_refl _) (x := n % 256) (y := n / 256) (by omega) (by omega)
  first
    | exact this
    | (simpa [twoN] using this)

/-- What Framed answers. -/
def framedD (l : List RecD) : List Nat := if writeB l then frameN (wroteN l) else []
theorem framedD_yes {l : List RecD} (h : writeB l = true) : framedD l = frameN (wroteN l) := if_pos h
theorem framedD_no {l : List RecD} (h : writeB l = false) : framedD l = [] := if_neg (by rw [h]; decide)
def FramedD (l : List RecD) (w : World) (e : Ending) (w' : World) : Prop :=
  ∃ v, e = .returned (.tuple #[v, .bool (writeB l)]) ∧ OB w' w.heap.size v (framedD l) ∧ Below w.heap.size w w'
theorem wroteN_pos {l : List RecD} (h : writeB l = true) : 0 < (wroteN l).length := by
  rw [wroteN_yes h, List.length_append]
  have := putN_pos l.length
  omega
theorem news_bytes {w : World} {g : Nat} {L : List Nat} (hC : ∀ j, j < L.length → w.cell? ⟨g, j, none⟩ = some (.int .u8 (L.getD j 0 : Nat))) : ∀ j u, (L.map byteV)[j]? = some u → w.cell? ((⟨g, 0, none⟩ : Addr).add j) = some u := fun j u hu => by
  have hj : j < L.length := by
    have := (List.getElem?_eq_some_iff.1 hu).1
    simpa using this
  rw [byteV_get hj] at hu
  cases hu
  rw [add_zero_block]
  exact hC j hj
theorem one_bytes {L : List Nat} : ∀ u ∈ L.map byteV, u.oneCell' = true := fun u hu => by
  obtain ⟨z, _, rfl⟩ := List.mem_map.1 hu
  rfl
set_option maxRecDepth 100000 in
set_option maxHeartbeats 2000000 in
theorem specFramed_any (v : Value) (l : List RecD) (w : World) (h : Rt w w.heap.size v l) :
    Calls Tryz.prog 97 #[v] w (FramedD l w) := by
  have H := Lib.hid h
  obtain ⟨i0, hi, hz0, hz1, hz2⟩ := info_parts info_u8
  have HI := Lib.hid hi
  have HZ0 := Lib.hid hz0
  have HZ1 := Lib.hid hz1
  have HZ2 := Lib.hid hz2
  clear h hi hz0 hz1 hz2
  go_enter Tryz.func97, Tryz.ntmps97
  go_wp2_with fail
  refine (specRecBytes_any v l w H.out).mono ?_
  rintro e w1 ⟨v1, rfl, O1, K1⟩
  have HO1 := Lib.hid O1
  have HK1 := Lib.hid K1
  have hlen := wroteN_len l
  have hbt := O1.bt
  obtain ⟨A1, c1, g1, rfl, hcap, hA1, hB1, hg1, C1⟩ := O1.open_
  have HBT := Lib.hid hbt
  have HC1 := Lib.hid C1
  clear O1 K1 hbt C1
  cases hw : writeB l
  · have HW := Lib.hid hw
    clear hw
    go_wp2_with fail
    go_ret2
    refine ⟨_, ret_two rfl (bool_eq HW.out.symm), ?_, HK1.out.alloc HK1.out.size _⟩
    rw [framedD_no HW.out]
    exact OB.empty HK1.out.size
  · have HW := Lib.hid hw
    have hpos := wroteN_pos hw
    have hg1' := hg1 hpos
    obtain rfl := hA1 hpos
    clear hw hg1 hA1
    have HF := Lib.hid (framedD_yes HW.out)
    generalize wroteN l = M at *
    generalize hm : M.length = m at *
    have HM := Lib.hid hm
    clear hm
    go_wp2_with fail
    refine (l4Two_any m w1 (by omega)).mono ?_
    rintro e w2 ⟨v2, rfl, O2, K2⟩
    have HO2 := Lib.hid O2
    have HK2 := Lib.hid K2
    clear O2 K2
    go_wp2_with fail
    refine (specSumOf_any _ M w2 (HBT.out.go HK2.out)).mono ?_
    rintro e w3 ⟨rfl, rfl⟩
    have hs := sumN_lt M
    generalize hsm : sumN M = s at *
    have HSM := Lib.hid hsm
    clear hsm
    go_wp2_with fail
    refine (l4Two_any s w2 (by omega)).mono ?_
    rintro e w3 ⟨v3, rfl, O3, K3⟩
    have HO3 := Lib.hid O3
    have HK3 := Lib.hid K3
    have hl3 : (twoN s).length = 2 := rfl
    obtain ⟨A3, c3, g3, rfl, hcap3, hA3, hB3, hg3, C3⟩ := O3.open_
    obtain rfl := hA3 (by rw [hl3]; decide)
    have HC3 := Lib.hid C3
    clear O3 K3 hA3 hg3 C3
    rw [hl3] at *
    have HR2 := Lib.hid (ownsRow_below HO2.out.own HK3.out)
    have hl2 : (twoN m).length = 2 := rfl
    rw [hl2] at HR2
    have hb3 := Nat.le_trans HK2.out.size HK3.out.size
    have HN3 : Hid (∀ j u, ((twoN s).map byteV)[j]? = some u → w3.cell? ((⟨g3, 0, none⟩ : Addr).add j) = some u) := Lib.hid (news_bytes fun j hj => (HC3.out j hj).1)
    have HK := Lib.hid ((HK1.out.trans (HK2.out.mono HK1.out.size)).trans (HK3.out.mono (Nat.le_trans HK1.out.size HK2.out.size)))
    have HN1 : Hid (∀ j, j < M.length → w3.cell? ⟨g1, j, none⟩ = some (.int .u8 (M.getD j 0 : Nat))) := Lib.hid fun j hj =>
      ((HK3.out.mono HK2.out.size).cell (p := ⟨g1, j, none⟩) hg1').trans ((HK2.out.cell (p := ⟨g1, j, none⟩) hg1').trans (HC1.out j (by rw [HM.out] at hj; exact hj)).1)
    have HV2 : Hid (∀ r, v2.ownBlock = some r → w1.heap.size ≤ r) := Lib.hid fun r hr => (HO2.out.lt hr).1
    have HS : Hid (SmallB (frameN M)) := Lib.hid (by
      unfold frameN
      rw [HM.out, HSM.out]
      exact HO2.out.small.append (HO3.out.small.append HO1.out.small))
    clear HC1 HC3 HK2 HK3 HBT HO3
    go_wp2_with (first
      | (at_builtin; refine wpList_append_own _ rfl _ _ 22 rfl w1.heap.size 5 i0 (.int .u8 0) 1 1 Tryz.underlying22 HI.out HZ0.out HZ1.out HZ2.out rfl (by decide) v2 2 _ rfl HR2.out ⟨g3, 0, none⟩ 2 c3 ((twoN s).map byteV) rfl rfl HN3.out one_bytes (by unfold maxLen; decide) (by decide) hb3 ?_; clear HR2; intro v4 w4 hown4 hgrow4 hnil4; have HR4 := Lib.hid hown4; have HG4 := Lib.hid hgrow4; clear hown4 hgrow4)
      | (at_builtin; (refine wpList_append_own _ rfl _ _ 22 rfl w1.heap.size 5 i0 (.int .u8 0) 1 1 Tryz.underlying22 HI.out HZ0.out HZ1.out HZ2.out rfl (by decide) v4 4 _ rfl HR4.out ⟨g1, 0, none⟩ m c1 (M.map byteV) rfl (by rw [List.length_map, HM.out, Nat.mul_one]) (news_bytes fun j hj => HG4.out.cell (HN1.out j hj) (fun e => by have : w1.heap.size ≤ g1 := HV2.out g1 e.symm; omega)) one_bytes (by unfold maxLen; omega) (by omega) (Nat.le_trans hb3 HG4.out.size) ?_; intro v5 w5 hown5 hgrow5 hnil5)))
    go_ret2
    refine ⟨_, ret_two rfl (bool_eq HW.out.symm), ⟨?_, by rw [HF.out]; exact HS.out⟩, ?_⟩
    · rw [HF.out, frameN_length]
      have e1 : (frameN M).map byteV = (twoN m).map byteV ++ (twoN s).map byteV ++ M.map byteV := by
        unfold frameN
        rw [HM.out, HSM.out, List.map_append, List.map_append, List.append_assoc]
      rw [e1, HM.out]
      exact ownsRow_base hown5 HK1.out.size
    · exact (HK.out.grown HG4.out HK.out.size (fun r hr => Nat.le_trans HK1.out.size (HV2.out r hr))).grown hgrow5 (Nat.le_trans HK.out.size HG4.out.size) (fun r hr => Nat.le_trans HK1.out.size (World.ownsRow.lt HR4.out r hr).1)
end Go.Proofs.YtoddmijfdmjfbaaGreatDoor
/- Fj -/
set_option linter.unusedVariables false
namespace Go.Proofs.YtoddmijfdmjfbaaGreatDoor
open Go.RowKit

/-- A slice that has a place, or nil. -/
def Real (v : Value) : Prop := v = .slice none 0 0 ∨ ∃ ad m c, v = .slice (some ad) m c
theorem OB.real {w : World} {B : Nat} {v : Value} {L : List Nat} (h : OB w B v L) : Real v := by
  rcases h.own.2 with ⟨h0, -⟩ | ⟨g, cap, cur, rfl, -⟩
  · exact .inl h0
  · exact .inr ⟨_, _, _, rfl⟩
def headOf (v : Value) (p : Nat) : Value := match v with
  | .slice none _ _ => .slice none 0 0
  | .slice (some ad) _ c => .slice (some ad) p c
  | v => v
theorem Real.head {v : Value} (h : Real v) (p : Nat) : Real (headOf v p) := by
  rcases h with rfl | ⟨ad, m, c, rfl⟩
  · exact .inl rfl
  · exact .inr ⟨_, _, _, rfl⟩
theorem Bt.slice_len {w : World} {B : Nat} {A : Option Addr} {m c : Nat} {L : List Nat} (h : Bt w B (.slice A m c) L) : L.length = m ∧ m ≤ c := by
  obtain ⟨⟨A', c1, hv, hcap, hc⟩, hl, hs⟩ := h
  injection hv with h1 h2 h3
  subst h2 h3
  exact ⟨rfl, hcap⟩
theorem Bt.head {w : World} {B p : Nat} {v : Value} {L : List Nat} (h : Bt w B v L) (hr : Real v) (hp : p ≤ L.length) : Bt w B (headOf v p) (L.take p) := by
  rcases hr with rfl | ⟨ad, m, c, rfl⟩
  · have e := h.slice_len.1
    have : L = [] := List.eq_nil_of_length_eq_zero e
    subst this
    simpa [headOf] using Bt.nil w B none 0
  · exact h.take hp (by have := h.slice_len; omega)

theorem wpList_append_bt {w : World} {ops : Array Oper} {rest : List Oper} {o : Oper} {a : Act} {Q : Exit → Act → World → Prop} (hgd : o.guard = none) (s x : Operand)
    (ho : o.op = .call { callee := .builtin .append, args := #[s, x], argTypes := #[22, 22] }) (base : Nat) (v : Value) (M : List Nat) (hs : a.eval s = v) (hown : OB w base v M)
    (u : Value) (L : List Nat) (hx : a.eval x = u) {B : Nat} (hb : Bt w B u L) (hr : Real u) (hlen : M.length + L.length ≤ 8388608) (hbase : base ≤ w.heap.size)
    (h : ∀ v' w', OB w' base v' (M ++ L) → w.grownBy w' v.ownBlock → wpList Tryz.prog ops Q rest (a.put o.dst v') w') : wpList Tryz.prog ops Q (o :: rest) a w := by
  obtain ⟨i0, hi, hz0, hz1, hz2⟩ := info_parts info_u8
  rcases hr with rfl | ⟨ad, m, c, rfl⟩
  · have hL : L = [] := List.eq_nil_of_length_eq_zero hb.slice_len.1
    subst hL
    refine wpList_append_own_none hgd s x 22 ho base 5 i0 1 Tryz.underlying22 hi v M.length _ hs hown.own hx ?_
    have := h v w (by rw [List.append_nil]; exact hown) ⟨rfl, rfl, rfl, Nat.le_refl _, fun _ _ _ => rfl⟩
    exact this
  · obtain ⟨hm, hmc⟩ := hb.slice_len
    refine wpList_append_own w hgd s x 22 ho base 5 i0 (.int .u8 0) 1 1 Tryz.underlying22 hi hz0 hz1 hz2 rfl (by decide) v M.length _ hs hown.own ad m c (L.map byteV) hx (by rw [List.length_map, hm, Nat.mul_one]) ?_ one_bytes (by unfold maxLen; omega) (by omega) hbase ?_
    · intro j y hy
      have hj : j < L.length := by
        have := (List.getElem?_eq_some_iff.1 hy).1
        simpa using this
      rw [byteV_get hj] at hy
      cases hy
      obtain ⟨b, off, e, hb1, q⟩ := hb.cell hj
      cases e
      have ha : (⟨b, off, none⟩ : Addr).add j = ⟨b, off + j, none⟩ := by unfold Addr.add; split <;> simp_all
      rw [ha]
      exact q
    · intro v' w' h1 h2 _
      exact h v' w' ⟨by rw [List.length_append, List.map_append, hm]; exact h1, hown.small.append hb.small⟩ h2
end Go.Proofs.YtoddmijfdmjfbaaGreatDoor
/- Sa -/
set_option linter.unusedVariables false
namespace Go.Proofs.YtoddmijfdmjfbaaGreatDoor
open Go.RowKit
/-- Block g holds n whole numbers, as x tells, and no more. -/
structure Cells (w : World) (g n : Nat) (x : Nat → Int) : Prop where
  it : ∃ cur, w.heap[g]? = some (.cells cur 2 (0, 0)) ∧ cur.size = n ∧ ∀ j, j < n → cur[j]? = some (.int .i64 (x j))
theorem Cells.lt {w : World} {g n : Nat} {x : Nat → Int} (h : Cells w g n x) : g < w.heap.size := by
  obtain ⟨cur, hh, _⟩ := h
  exact (Array.getElem?_eq_some_iff.1 hh).1
theorem Cells.at_ {w : World} {g n : Nat} {x : Nat → Int} (h : Cells w g n x) {j : Nat} (hj : j < n) : w.cell? ⟨g, j, none⟩ = some (.int .i64 (x j)) ∧ w.frozen? ⟨g, j, none⟩ = false := by
  obtain ⟨cur, hh, _, hc⟩ := h
  exact ⟨(cell_of_row _ _ _ _ _ _ hh).trans (hc j hj), frozen_of_row _ _ _ _ _ hh⟩
theorem Cells.set {w : World} {g n : Nat} {x : Nat → Int} (h : Cells w g n x) (i : Nat) (v : Int) : Cells (w.setCell ⟨g, i, none⟩ (.int .i64 v)) g n (fun j => if j = i then v else x j) := by
  obtain ⟨cur, hh, hs, hc⟩ := h
  refine ⟨cur.setIfInBounds i (.int .i64 v), ?_, by simp [hs], fun j hj => ?_⟩
  · rw [Go.Sort.setCell_eq]
    simp [Go.Sort.mapBlock, Array.getElem?_modify, hh, Go.Sort.onCells]
  · by_cases e : j = i
    · subst e
      simp [hs, hj]
    · rw [Array.getElem?_setIfInBounds_ne (fun he => e he.symm), hc j hj, if_neg e]
theorem Cells.congr {w : World} {g n : Nat} {x y : Nat → Int} (h : Cells w g n x) (e : ∀ j, j < n → x j = y j) : Cells w g n y := by
  obtain ⟨cur, hh, hs, hc⟩ := h
  exact ⟨cur, hh, hs, fun j hj => by rw [hc j hj, e j hj]⟩
theorem Cells.drewN {w : World} {g n : Nat} {x : Nat → Int} (h : Cells w g n x) (q : Nat) : Cells (w.drewN q) g n x := ⟨h.it⟩
/-- The same numbers, in whichever order and however often. -/
structure Same (n : Nat) (x y : Nat → Int) : Prop where
  there : ∀ j, j < n → ∃ k, k < n ∧ y k = x j
  back : ∀ k, k < n → ∃ j, j < n ∧ y k = x j
theorem Same.refl (n : Nat) (x : Nat → Int) : Same n x x := ⟨fun j hj => ⟨j, hj, rfl⟩, fun j hj => ⟨j, hj, rfl⟩⟩
/-- y with what lies at two places put each in the other's. -/
def swapped (y : Nat → Int) (a b : Nat) : Nat → Int := fun j => if j = b then y a else if j = a then y b else y j
theorem Same.swap {n : Nat} {x y : Nat → Int} (h : Same n x y) {a b : Nat} (ha : a < n) (hb : b < n) : Same n x (swapped y a b) := by
  refine ⟨fun j hj => ?_, fun k hk => ?_⟩
  · obtain ⟨k, hk, e⟩ := h.there j hj
    by_cases e1 : k = a
    · exact ⟨b, hb, by rw [← e, e1]; exact if_pos rfl⟩
    · by_cases e2 : k = b
      · refine ⟨a, ha, ?_⟩
        rw [← e, e2]
        unfold swapped
        by_cases e3 : a = b
        · rw [if_pos e3, e3]
        · rw [if_neg e3, if_pos rfl]
      · exact ⟨k, hk, by rw [← e]; unfold swapped; rw [if_neg e2, if_neg e1]⟩
  · unfold swapped
    split
    · exact h.back a ha
    · split
      · exact h.back b hb
      · exact h.back k hk
/-- Up to m all rise (or stay), but for what lies at place j, which may be too small for its place. -/
def RiseBut (y : Nat → Int) (m j : Nat) : Prop := ∀ a b, a < b → b < m → b ≠ j → y a ≤ y b
def Rises (y : Nat → Int) (m : Nat) : Prop := ∀ a b, a < b → b < m → y a ≤ y b
theorem rise_one (y : Nat → Int) : Rises y 1 := fun a b h1 h2 => by omega
theorem Rises.but {y : Nat → Int} {m : Nat} (h : Rises y m) : RiseBut y (m + 1) m := fun a b h1 h2 h3 => h a b h1 (by omega)
theorem RiseBut.stop {y : Nat → Int} {m j : Nat} (h : RiseBut y m j) (hs : j = 0 ∨ y (j - 1) ≤ y j) : Rises y m := fun a b h1 h2 => by
  by_cases e : b = j
  · subst e
    have h3 := hs.resolve_left (by omega)
    by_cases e2 : a = b - 1
    · subst e2; exact h3
    · exact Int.le_trans (h a (b - 1) (by omega) (by omega) (by omega)) h3
  · exact h a b h1 h2 e
theorem RiseBut.swap {y : Nat → Int} {m j : Nat} (h : RiseBut y m j) (hj : 0 < j) (hl : y j < y (j - 1)) : RiseBut (swapped y j (j - 1)) m (j - 1) := fun a b h1 h2 h3 => by
  unfold swapped
  rw [if_neg h3]
  by_cases e1 : b = j
  · rw [if_pos e1]
    by_cases e2 : a = j - 1
    · rw [if_pos e2]; omega
    · rw [if_neg e2, if_neg (by omega)]
      exact h a (j - 1) (by omega) (by omega) (by omega)
  · rw [if_neg e1]
    by_cases e2 : a = j - 1
    · rw [if_pos e2]
      by_cases e3 : j < b
      · exact h j b e3 h2 e1
      · omega
    · rw [if_neg e2]
      by_cases e3 : a = j
      · rw [if_pos e3]
        exact h (j - 1) b (by omega) h2 e1
      · rw [if_neg e3]
        exact h a b h1 h2 e1

set_option maxHeartbeats 400000 in
theorem isNaN_any (x : Int) (w : World) : Calls Tryz.prog 99 #[.int .i64 x] w fun e w' => e = .returned (.bool false) ∧ w' = w := by
  go_enter Tryz.func99, Tryz.ntmps99
  go_wp2
  go_ret
  exact ⟨ret_bool (by simp), rfl⟩
set_option maxHeartbeats 400000 in
theorem less_any (x y : Int) (w : World) : Calls Tryz.prog 90 #[.int .i64 x, .int .i64 y] w fun e w' => e = .returned (.bool (decide (x < y))) ∧ w' = w := by
  go_enter Tryz.func90, Tryz.ntmps90
  go_wp2_with (go_at_call 99; refine (isNaN_any _ _).mono ?_; rintro e w' ⟨rfl, rfl⟩)
  go_ret
  exact ⟨rfl, rfl⟩

/-- What a sort leaves: nothing is answered, the same numbers rise, all else is as it was. -/
def Sorted (g n : Nat) (x : Nat → Int) (w : World) (e : Ending) (w' : World) : Prop :=
  e = .returned (.tuple #[]) ∧ ∃ y, Cells w' g n y ∧ Same n x y ∧ Rises y n ∧ Keeps (· = g) w w'

end Go.Proofs.YtoddmijfdmjfbaaGreatDoor
/- Sb -/
set_option linter.unusedVariables false
namespace Go.Proofs.YtoddmijfdmjfbaaGreatDoor
open Go.RowKit

/-- Of the first m those that are not as the one ahead of them. -/
def dd (x : Nat → Int) : Nat → List Int
  | 0 => []
  | m + 1 => if m = 0 ∨ x m ≠ x (m - 1) then dd x m ++ [x m] else dd x m
theorem dd_new {x : Nat → Int} {m : Nat} (h : m = 0 ∨ x m ≠ x (m - 1)) : dd x (m + 1) = dd x m ++ [x m] := if_pos h
theorem dd_old {x : Nat → Int} {m : Nat} (hm : 0 < m) (h : x m = x (m - 1)) : dd x (m + 1) = dd x m := if_neg (by omega)
theorem dd_le (x : Nat → Int) : ∀ m, (dd x m).length ≤ m
  | 0 => Nat.le_refl _
  | m + 1 => by
    have := dd_le x m
    unfold dd
    split
    · simp; omega
    · omega
/-- Where no two neighbours are alike all stay. -/
theorem dd_all {x : Nat → Int} : ∀ {m : Nat}, (∀ j, 0 < j → j < m → x j ≠ x (j - 1)) → (dd x m).length = m ∧ ∀ j, j < m → x j = (dd x m).getD j 0
  | 0, _ => ⟨rfl, fun j hj => by omega⟩
  | m + 1, h => by
    obtain ⟨h1, h2⟩ := dd_all (m := m) fun j h0 hj => h j h0 (by omega)
    have hn : m = 0 ∨ x m ≠ x (m - 1) := by
      by_cases e : m = 0
      · exact .inl e
      · exact .inr (h m (by omega) (by omega))
    rw [dd_new hn]
    refine ⟨by simp [h1], fun j hj => ?_⟩
    by_cases e : j = m
    · subst e
      simp [List.getD, h1]
    · rw [h2 j (by omega)]
      simp [List.getD, List.getElem?_append_left (show j < (dd x m).length by omega)]

theorem Cells.fill {g n : Nat} : ∀ (m o : Nat) {w : World} {y : Nat → Int}, Cells w g n y → ∃ z, Cells (w.setCells g o (List.replicate m (.int .i64 0))) g n z ∧ ∀ j, j < o → z j = y j
  | 0, o, w, y, h => ⟨y, h, fun _ _ => rfl⟩
  | m + 1, o, w, y, h => by
    obtain ⟨z, hz, e⟩ := Cells.fill m (o + 1) (h.set o 0)
    exact ⟨z, hz, fun j hj => (e j (by omega)).trans (if_neg (by omega))⟩
theorem Keeps.fill {S : Nat → Prop} {g : Nat} (hg : S g) {w : World} : ∀ (m o : Nat) {w' : World}, Keeps S w w' → Keeps S w (w'.setCells g o (List.replicate m (.int .i64 0)))
  | 0, o, w', h => h
  | m + 1, o, w', h => Keeps.fill hg m (o + 1) (h.set (p := ⟨g, o, none⟩) hg _)

/-- Of the first m places' numbers those that stay lie ahead; behind them all is as it was. -/
structure Moved (x y : Nat → Int) (n m k : Nat) : Prop where
  len : (dd x m).length = k
  lt : k < m
  low : ∀ j, j < k → y j = (dd x m).getD j 0
  high : ∀ j, k ≤ j → j < n → y j = x j
theorem Moved.old {x y : Nat → Int} {n m k : Nat} (h : Moved x y n m k) (hm : 0 < m) (e : x m = x (m - 1)) : Moved x y n (m + 1) k := by
  obtain ⟨h1, h2, h3, h4⟩ := h
  exact ⟨by rw [dd_old hm e]; exact h1, by omega, by rw [dd_old hm e]; exact h3, h4⟩
theorem Moved.new {x y : Nat → Int} {n m k : Nat} (h : Moved x y n m k) (e : x m ≠ x (m - 1)) : Moved x (fun j => if j = k then x m else y j) n (m + 1) (k + 1) := by
  obtain ⟨h1, h2, h3, h4⟩ := h
  refine ⟨by rw [dd_new (.inr e)]; simp [h1], by omega, fun j hj => ?_, fun j h5 h6 => ?_⟩
  · rw [dd_new (.inr e)]
    by_cases e2 : j = k
    · rw [if_pos e2, e2]
      simp [List.getD, ← h1]
    · rw [if_neg e2, h3 j (by omega)]
      simp [List.getD, List.getElem?_append_left (show j < (dd x m).length by omega)]
  · rw [if_neg (by omega)]
    exact h4 j (by omega) h6

/-- What Compact leaves. -/
def Compacted (g n : Nat) (x : Nat → Int) (w : World) (e : Ending) (w' : World) : Prop :=
  e = .returned (.slice (some ⟨g, 0, none⟩) (dd x n).length n) ∧ ∃ y, Cells w' g n y ∧ (∀ j, j < (dd x n).length → y j = (dd x n).getD j 0) ∧ Keeps (· = g) w w'
theorem Compacted.same {g n : Nat} {x : Nat → Int} {w w' : World} (h : ∀ j, 0 < j → j < n → x j ≠ x (j - 1)) (hX : Cells w' g n x) (hK : Keeps (· = g) w w') : Compacted g n x w (.returned (.slice (some ⟨g, 0, none⟩) n n)) w' := by
  obtain ⟨h1, h2⟩ := dd_all h
  exact ⟨by rw [h1], x, hX, by rw [h1]; exact h2, hK⟩

end Go.Proofs.YtoddmijfdmjfbaaGreatDoor
/- Da -/
set_option linter.unusedVariables false
namespace Go.Proofs.YtoddmijfdmjfbaaGreatDoor
open Go.RowKit

/-- Block g holds just cs, all writable. -/
structure Blk (w : World) (g : Nat) (cs : Array Value) : Prop where
  z : g < w.heap.size
  C : ∀ o, w.cell? ⟨g, o, none⟩ = cs[o]?
  F : ∀ o, w.frozen? ⟨g, o, none⟩ = false
theorem Blk.new (w : World) (cs : Array Value) (t : TypeId) : Blk (w.alloc (.cells cs t)) w.heap.size cs := ⟨by simp, cell_new w cs t, fun o => frozen_of_row _ _ _ _ _ (heap_alloc_new w _)⟩
theorem Blk.keeps {S : Nat → Prop} {w w' : World} {g : Nat} {cs : Array Value} (h : Blk w g cs) (k : Keeps S w w') (hn : ¬ S g) : Blk w' g cs :=
  ⟨Nat.lt_of_lt_of_le h.z k.size, fun o => (k.cell (p := ⟨g, o, none⟩) h.z hn).trans (h.C o), fun o => (k.frozen (p := ⟨g, o, none⟩) h.z hn).trans (h.F o)⟩
theorem Blk.below {w w' : World} {g : Nat} {cs : Array Value} (h : Blk w g cs) (hb : Below w.heap.size w w') : Blk w' g cs := h.keeps (S := fun _ => False) (Keeps.of_below hb) id
theorem Blk.alloc {w : World} {g : Nat} {cs : Array Value} (h : Blk w g cs) (o : Obj) : Blk (w.alloc o) g cs := h.below ((Below.refl _ _).alloc (Nat.le_refl _) _)
theorem Blk.set {w : World} {g : Nat} {cs : Array Value} (h : Blk w g cs) {i : Nat} (hi : i < cs.size) (v : Value) : Blk (w.setCell ⟨g, i, none⟩ v) g (cs.setIfInBounds i v) :=
  ⟨by simpa [World.setCell] using h.z, fun o => by
    by_cases e : o = i
    · subst e
      rw [World.cell?_setCell_same _ _ _ ((h.C o).trans (Array.getElem?_eq_getElem hi))]
      simp [hi]
    · rw [World.cell?_setCell_other _ _ _ _ (fun he => e (by injection he with _ h2 _; exact h2.symm)), h.C o, Array.getElem?_setIfInBounds_ne (fun he => e he.symm)],
   fun o => by rw [World.frozen?_setCell]; exact h.F o⟩

theorem Keeps.far {S : Nat → Prop} {w w' : World} (h : Keeps S w w') {p : Addr} (hp : w.heap.size ≤ p.block) (v : Value) : Keeps S w (w'.setCell p v) :=
  ⟨h.os, h.tape, h.output, by simpa [World.setCell] using h.size, fun b hb hn => (Below.heap_setCell _ _ _ _ (fun e => by omega)).trans (h.block b hb hn)⟩
theorem Keeps.alloc {S : Nat → Prop} {w w' : World} (h : Keeps S w w') (o : Obj) : Keeps S w (w'.alloc o) := h.trans (Keeps.of_below ((Below.refl _ _).alloc (Nat.le_refl _) o))
theorem Cur.far {T : TypeId} {k : IntKind} {w : World} {g : Nat} (h : Cur T k w g) {p : Addr} (hp : g < p.block) (v : Value) : Cur T k (w.setCell p v) g :=
  h.keeps (S := (· = p.block)) ((Keeps.refl (· = p.block) w).set (p := p) rfl v) (fun b hb e => by have e : b = p.block := e; omega)
theorem Cur.alloc {T : TypeId} {k : IntKind} {w : World} {g : Nat} (h : Cur T k w g) (o : Obj) : Cur T k (w.alloc o) g := h.below ((Below.refl _ _).alloc (Nat.le_refl _) o)

/-- Behind a draw of a record, whichever. -/
def DrawnRec (g : Nat) (w : World) (e : Ending) (w' : World) : Prop :=
  ∃ r : RecD, e = .returned (recV r) ∧ Cur 72 .i64 w' g ∧ Keeps (· = g) w w'
def pick3 (a b c : Int) (x : Nat) : Int := if x = 0 then a else if x = 1 then b else c
theorem pick3_get (a b c : Int) (x : Nat) (hx : x < ([.int .i64 a, .int .i64 b, .int .i64 c] : List Value).length) : ([.int .i64 a, .int .i64 b, .int .i64 c] : List Value)[x]'hx = .int .i64 (pick3 a b c x) := by
  have hx' : x < 3 := hx
  rcases (by omega : x = 0 ∨ x = 1 ∨ x = 2) with rfl | rfl | rfl <;> rfl

set_option maxRecDepth 100000 in
set_option maxHeartbeats 4000000 in
theorem l3Draw_any (g : Nat) (w : World) (h : Cur 72 .i64 w g) : Calls Tryz.prog 81 #[.pointer (some ⟨g, 0, none⟩)] w (DrawnRec g w) := by
  have hl := h.lt
  have harr := pick3_get
  have hne : ¬ w.heap.size = g := by omega
  have X0 := (Blk.new w #[.int .i64 0, .int .i64 0, .int .i64 0] 41).below (Below.refl _ _).drew
  have hc0 : Cur 72 .i64 (w.alloc (.cells #[.int .i64 0, .int .i64 0, .int .i64 0] 41)).drew g := (h.below ((Below.refl _ _).alloc (Nat.le_refl _) _)).below (Below.refl _ _).drew
  have hK0 : Keeps (· = g) w (w.alloc (.cells #[.int .i64 0, .int .i64 0, .int .i64 0] 41)).drew := Keeps.of_below ((Below.refl _ _).alloc (Nat.le_refl _) _).drew
  clear h
  go_enter Tryz.func81, Tryz.ntmps81
  go_wp2_with fail
  go_region_law (first
    | (have hq := hc5
       clear hq
       go_simp
       go_at_call 16
       refine (l1Below_any g 7 _ (by first | exact hc5 | exact hc5.below ((Below.refl _ _).alloc (Nat.le_refl _) _)) (by omega) (by omega)).mono ?_
       rintro e w6 ⟨a6, rfl, y60, y61, hc6, hk6⟩
       have K6 := Keeps.trans (by first | exact K5 | exact K5.alloc _) hk6
       have X6 := Blk.keeps (by first | exact X5 | exact X5.alloc _) hk6 hne
       have x6 := X6.C
       have l6 := X6.z
       have f6 := X6.F
       try (have Z6 := Z5.keeps hk6 hz5
            have z6 := Z6.C)
       try (have Z6 := Blk.keeps (Blk.new w5 #[.int .i64 a2, .int .i64 a3, .int .i64 a4] 2) hk6 hs5
            have z6 := Z6.C))
    | (have hq := hc4
       clear hq
       go_simp
       go_at_call 16
       refine (l1Below_any g 3 _ (by first | exact hc4 | exact hc4.below ((Below.refl _ _).alloc (Nat.le_refl _) _)) (by omega) (by omega)).mono ?_
       rintro e w5 ⟨a5, rfl, y50, y51, hc5, hk5⟩
       obtain ⟨a5, rfl⟩ := Int.eq_ofNat_of_zero_le y50
       have hx5 : a5 < 3 := by omega
       have K5 := Keeps.trans (by first | exact K4 | exact K4.alloc _) hk5
       have X5 := Blk.keeps (by first | exact X4 | exact X4.alloc _) hk5 hne
       have hs5 : ¬ w5.heap.size = g := by have := hc5.lt; omega
       have hz5 : ¬ w4.heap.size = g := by have := hc4.lt; omega
       try (have Z5 := Blk.keeps (Blk.new w4 #[.int .i64 a2, .int .i64 a3, .int .i64 a4] 2) hk5 hz5
            have z5 := Z5.C))
    | (have hq := hc3
       clear hq
       go_simp
       go_at_call 16
       refine (l1Below_big g 1000001 _ hc3 (by omega) (by omega)).mono ?_
       rintro e w4 ⟨a4, rfl, y40, y41, hc4, hk4⟩
       have K4 := K3.trans hk4
       have X4 := X3.keeps hk4 hne)
    | (have hq := hc2
       clear hq
       go_simp
       go_at_call 16
       refine (l1Below_big g 300 _ hc2 (by omega) (by omega)).mono ?_
       rintro e w3 ⟨a3, rfl, y30, y31, hc3, hk3⟩
       have K3 := K2.trans hk3
       have X3 := X2.keeps hk3 hne)
    | (have hq := hc1
       clear hq
       go_simp
       go_at_call 16
       refine (l1Below_any g 8 _ hc1 (by omega) (by omega)).mono ?_
       rintro e w2 ⟨a2, rfl, y20, y21, hc2, hk2⟩
       have K2 := K1.trans hk2
       have X2 := X1.keeps hk2 hne)
    | (have hq := hc0
       clear hq
       go_simp
       go_at_call 37
       refine (l1From_any g 1 12 _ hc0 (by omega) (by omega) (by omega) (by omega)).mono ?_
       rintro e w1 ⟨a1, rfl, y10, y11, hc1, hk1⟩
       have K1 := hK0.trans hk1
       have X1 := X0.keeps hk1 hne))
  all_goals
    have X7 := ((X6.set (i := 0) (by decide) (.int .i64 a1)).set (i := 1) (by simp) (.int .i64 (pick3 a2 a3 a4 a5))).set (i := 2) (by simp) (.int .i64 a6)
    have C7 := ((hc6.far (p := ⟨w.heap.size, 0, none⟩) hl (.int .i64 a1)).far (p := ⟨w.heap.size, 1, none⟩) hl (.int .i64 (pick3 a2 a3 a4 a5))).far (p := ⟨w.heap.size, 2, none⟩) hl (.int .i64 a6)
    have K7 := ((K6.far (p := ⟨w.heap.size, 0, none⟩) (Nat.le_refl _) (.int .i64 a1)).far (p := ⟨w.heap.size, 1, none⟩) (Nat.le_refl _) (.int .i64 (pick3 a2 a3 a4 a5))).far (p := ⟨w.heap.size, 2, none⟩) (Nat.le_refl _) (.int .i64 a6)
    clear x6 f6 l6
    go_wp2_with fail
    first
      | (have r7 := X7.C
         refine bodyPost_ret (v := recV ⟨a1, pick3 a2 a3 a4 a5, a6⟩) ?_ rfl ⟨⟨a1, pick3 a2 a3 a4 a5, a6⟩, rfl, C7, K7⟩
         simp [results, Tryz.results81, go_sem, r7, recV])
      | (have r7 := (X7.alloc (.cells #[.int .i64 a2, .int .i64 a3, .int .i64 a4] 2)).C
         refine bodyPost_ret (v := recV ⟨a1, pick3 a2 a3 a4 a5, a6⟩) ?_ rfl ⟨⟨a1, pick3 a2 a3 a4 a5, a6⟩, rfl, C7.alloc _, K7.alloc _⟩
         simp [results, Tryz.results81, go_sem, r7, recV])
end Go.Proofs.YtoddmijfdmjfbaaGreatDoor
/- Db -/
set_option linter.unusedVariables false
namespace Go.Proofs.YtoddmijfdmjfbaaGreatDoor
open Go.RowKit

set_option maxRecDepth 100000 in
set_option maxHeartbeats 4000000 in
theorem l3DrawAny_any (g : Nat) (w : World) (h : Cur 72 .i64 w g) : Calls Tryz.prog 41 #[.pointer (some ⟨g, 0, none⟩)] w (DrawnRec g w) := by
  have hl := h.lt
  have hne : ¬ w.heap.size = g := by omega
  have X0 := Blk.new w #[.int .i64 0, .int .i64 0, .int .i64 0] 41
  have hc0 : Cur 72 .i64 (w.alloc (.cells #[.int .i64 0, .int .i64 0, .int .i64 0] 41)) g := h.alloc _
  have hK0 : Keeps (· = g) w (w.alloc (.cells #[.int .i64 0, .int .i64 0, .int .i64 0] 41)) := (Keeps.refl _ _).alloc _
  clear h
  go_enter Tryz.func41, Tryz.ntmps41
  go_wp2_with fail
  refine (l3Draw_any g _ hc0).mono ?_
  rintro e w1 ⟨⟨rk, ra, rb⟩, rfl, hc1, hk1⟩
  have K1 := hK0.trans hk1
  have X1 := X0.keeps hk1 hne
  have hlt1 := X1.z
  unfold recV
  dsimp only
  clear hc0 hK0 hk1 X0
  go_wp2_with fail
  have K2 := K1.alloc (.cells #[.int .i64 rk, .int .i64 ra, .int .i64 rb] 41)
  have X2 := X1.alloc (.cells #[.int .i64 rk, .int .i64 ra, .int .i64 rb] 41)
  have Y2 := Blk.new w1 #[.int .i64 rk, .int .i64 ra, .int .i64 rb] 41
  have hc2 := hc1.alloc (.cells #[.int .i64 rk, .int .i64 ra, .int .i64 rb] 41)
  have hr : w.heap.size < w1.heap.size := hlt1
  have hrg : ¬ w1.heap.size = g := by omega
  clear K1 X1 hc1 hlt1
  generalize w1.alloc (.cells #[.int .i64 rk, .int .i64 ra, .int .i64 rb] 41) = w2 at K2 X2 Y2 hc2 ⊢
  generalize w1.heap.size = R at Y2 hr hrg ⊢
  refine (l1Once_any g 6 _ hc2 (by omega) (by omega)).mono ?_
  rintro e w3 ⟨b, rfl, hc3, hk3⟩
  have K3 := K2.trans hk3
  have X3 := X2.keeps hk3 hne
  have Y3 := Y2.keeps hk3 hrg
  clear K2 X2 Y2 hc2 hk3
  cases b
  · have q0 := X3.C
    have q1 := X3.F
    have q2 := Y3.C
    go_wp2_with fail
    have X9 := ((X3.set (i := 0) (by decide) (.int .i64 rk)).set (i := 1) (by simp) (.int .i64 ra)).set (i := 2) (by simp) (.int .i64 rb)
    have r9 := X9.C
    have C9 := ((hc3.far (p := ⟨w.heap.size, 0, none⟩) hl (.int .i64 rk)).far (p := ⟨w.heap.size, 1, none⟩) hl (.int .i64 ra)).far (p := ⟨w.heap.size, 2, none⟩) hl (.int .i64 rb)
    have K9 := ((K3.far (p := ⟨w.heap.size, 0, none⟩) (Nat.le_refl _) (.int .i64 rk)).far (p := ⟨w.heap.size, 1, none⟩) (Nat.le_refl _) (.int .i64 ra)).far (p := ⟨w.heap.size, 2, none⟩) (Nat.le_refl _) (.int .i64 rb)
    refine bodyPost_ret (v := recV ⟨rk, ra, rb⟩) ?_ rfl ⟨⟨rk, ra, rb⟩, rfl, C9, K9⟩
    simp [results, Tryz.results41, go_sem, r9, recV]
  · go_wp2_with fail
    refine (l1Below_any g 3 _ hc3 (by omega) (by omega)).mono ?_
    rintro e w4 ⟨x, rfl, x0, x1, hc4, hk4⟩
    have K4 := K3.trans hk4
    have X4 := X3.keeps hk4 hne
    have Y4 := Y3.keeps hk4 hrg
    clear K3 X3 Y3 hc3 hk4
    rcases (by omega : x = 0 ∨ x = 1 ∨ x = 2) with rfl | rfl | rfl
    · go_wp2_with fail
      refine (l1From_any g 0 13 _ hc4 (by omega) (by omega) (by omega) (by omega)).mono ?_
      rintro e w5 ⟨y, rfl, y0, y1, hc5, hk5⟩
      have K5 := K4.trans hk5
      have X5 := X4.keeps hk5 hne
      have Y5 := Y4.keeps hk5 hrg
      have Y6 := Y5.set (i := 0) (by simp) (.int .i64 y)
      have X6 := X5.keeps ((Keeps.refl (· = R) w5).set (p := ⟨R, 0, none⟩) rfl (.int .i64 y)) (by show ¬ w.heap.size = R; omega)
      have C6 := hc5.far (p := ⟨R, 0, none⟩) (by show g < R; omega) (.int .i64 y)
      have K6 := K5.far (p := ⟨R, 0, none⟩) (by show w.heap.size ≤ R; omega) (.int .i64 y)
      have q0 := Y5.C
      have q1 := Y5.F
      have q2 := X5.C
      have q3 := X5.F
      have q4 := Y6.C
      have q5 := X6.C
      have q6 := X6.F
      clear K4 X4 Y4 hc4 hk5 hc5 K5
      go_wp2_with fail
      have X9 := ((X6.set (i := 0) (by decide) (.int .i64 y)).set (i := 1) (by simp) (.int .i64 ra)).set (i := 2) (by simp) (.int .i64 rb)
      have r9 := X9.C
      have C9 := ((C6.far (p := ⟨w.heap.size, 0, none⟩) hl (.int .i64 y)).far (p := ⟨w.heap.size, 1, none⟩) hl (.int .i64 ra)).far (p := ⟨w.heap.size, 2, none⟩) hl (.int .i64 rb)
      have K9 := ((K6.far (p := ⟨w.heap.size, 0, none⟩) (Nat.le_refl _) (.int .i64 y)).far (p := ⟨w.heap.size, 1, none⟩) (Nat.le_refl _) (.int .i64 ra)).far (p := ⟨w.heap.size, 2, none⟩) (Nat.le_refl _) (.int .i64 rb)
      refine bodyPost_ret (v := recV ⟨y, ra, rb⟩) ?_ rfl ⟨⟨y, ra, rb⟩, rfl, C9, K9⟩
      simp [results, Tryz.results41, go_sem, r9, recV]
    · go_wp2_with fail
      refine (l1Num_any g 1000000 _ hc4 (by omega) (by omega)).mono ?_
      rintro e w5 ⟨y, rfl, hc5, hk5⟩
      have K5 := K4.trans hk5
      have X5 := X4.keeps hk5 hne
      have Y5 := Y4.keeps hk5 hrg
      have Y6 := Y5.set (i := 1) (by simp) (.int .i64 y)
      have X6 := X5.keeps ((Keeps.refl (· = R) w5).set (p := ⟨R, 1, none⟩) rfl (.int .i64 y)) (by show ¬ w.heap.size = R; omega)
      have C6 := hc5.far (p := ⟨R, 1, none⟩) (by show g < R; omega) (.int .i64 y)
      have K6 := K5.far (p := ⟨R, 1, none⟩) (by show w.heap.size ≤ R; omega) (.int .i64 y)
      have q0 := Y5.C
      have q1 := Y5.F
      have q2 := X5.C
      have q3 := X5.F
      have q4 := Y6.C
      have q5 := X6.C
      have q6 := X6.F
      clear K4 X4 Y4 hc4 hk5 hc5 K5
      go_wp2_with fail
      have X9 := ((X6.set (i := 0) (by decide) (.int .i64 rk)).set (i := 1) (by simp) (.int .i64 y)).set (i := 2) (by simp) (.int .i64 rb)
      have r9 := X9.C
      have C9 := ((C6.far (p := ⟨w.heap.size, 0, none⟩) hl (.int .i64 rk)).far (p := ⟨w.heap.size, 1, none⟩) hl (.int .i64 y)).far (p := ⟨w.heap.size, 2, none⟩) hl (.int .i64 rb)
      have K9 := ((K6.far (p := ⟨w.heap.size, 0, none⟩) (Nat.le_refl _) (.int .i64 rk)).far (p := ⟨w.heap.size, 1, none⟩) (Nat.le_refl _) (.int .i64 y)).far (p := ⟨w.heap.size, 2, none⟩) (Nat.le_refl _) (.int .i64 rb)
      refine bodyPost_ret (v := recV ⟨rk, y, rb⟩) ?_ rfl ⟨⟨rk, y, rb⟩, rfl, C9, K9⟩
      simp [results, Tryz.results41, go_sem, r9, recV]
    · go_wp2_with fail
      refine (l1Num_any g 1000000 _ hc4 (by omega) (by omega)).mono ?_
      rintro e w5 ⟨y, rfl, hc5, hk5⟩
      have K5 := K4.trans hk5
      have X5 := X4.keeps hk5 hne
      have Y5 := Y4.keeps hk5 hrg
      have Y6 := Y5.set (i := 2) (by simp) (.int .i64 y)
      have X6 := X5.keeps ((Keeps.refl (· = R) w5).set (p := ⟨R, 2, none⟩) rfl (.int .i64 y)) (by show ¬ w.heap.size = R; omega)
      have C6 := hc5.far (p := ⟨R, 2, none⟩) (by show g < R; omega) (.int .i64 y)
      have K6 := K5.far (p := ⟨R, 2, none⟩) (by show w.heap.size ≤ R; omega) (.int .i64 y)
      have q0 := Y5.C
      have q1 := Y5.F
      have q2 := X5.C
      have q3 := X5.F
      have q4 := Y6.C
      have q5 := X6.C
      have q6 := X6.F
      clear K4 X4 Y4 hc4 hk5 hc5 K5
      go_wp2_with fail
      have X9 := ((X6.set (i := 0) (by decide) (.int .i64 rk)).set (i := 1) (by simp) (.int .i64 ra)).set (i := 2) (by simp) (.int .i64 y)
      have r9 := X9.C
      have C9 := ((C6.far (p := ⟨w.heap.size, 0, none⟩) hl (.int .i64 rk)).far (p := ⟨w.heap.size, 1, none⟩) hl (.int .i64 ra)).far (p := ⟨w.heap.size, 2, none⟩) hl (.int .i64 y)
      have K9 := ((K6.far (p := ⟨w.heap.size, 0, none⟩) (Nat.le_refl _) (.int .i64 rk)).far (p := ⟨w.heap.size, 1, none⟩) (Nat.le_refl _) (.int .i64 ra)).far (p := ⟨w.heap.size, 2, none⟩) (Nat.le_refl _) (.int .i64 y)
      refine bodyPost_ret (v := recV ⟨rk, ra, y⟩) ?_ rfl ⟨⟨rk, ra, y⟩, rfl, C9, K9⟩
      simp [results, Tryz.results41, go_sem, r9, recV]
end Go.Proofs.YtoddmijfdmjfbaaGreatDoor
