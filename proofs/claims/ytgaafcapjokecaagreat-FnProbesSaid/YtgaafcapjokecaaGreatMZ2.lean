/-
  slices.BinarySearch and slices.Delete at []int64: the library's contracts of this program.
-/
import Derived.Test.YtgaafcapjokecaaGreatMZ1
import Derived.Deep.RegionHeld3
import Derived.BigQuiet
import Derived.Deep.QuietTactic
import Derived.Deep.AppendLies
import Derived.Laws.AppendOwnNone
import Derived.Test.YtgaafcapjokecaaGreatMZ0
import Derived.Sort.Row
import Derived.RegionTactic
import Derived.BigRegion
import Derived.Lib.SliceRun
import Derived.Deep.RegionLaw
import Derived.Laws.Tables
import Derived.Laws.BytesArg
import Derived.Shelf.SlicesG.SearchI
import Derived.Shelf.SlicesG.Delete
/- Be -/
set_option linter.unusedVariables false
namespace Go.Proofs.YtgaafcapjokecaaGreat
open Go.RowKit

/-- There are not too many, and all are right. -/
def writeB (l : List RecD) : Bool := decide (l.length ≤ 80) && allOk l
theorem allOk_at {l : List RecD} : allB l.length (fun i => recOkB (recAt l i)) = allOk l := by
  rw [Bool.eq_iff_iff, allB_true]
  unfold allOk
  rw [List.all_eq_true]
  constructor
  · intro h r hr
    obtain ⟨i, hi, rfl⟩ := List.getElem_of_mem hr
    have := h i hi
    simpa [recAt, List.getD, hi] using this
  · intro h i hi
    simpa [recAt, List.getD, hi] using h _ (List.getElem_mem hi)

/-- What is written of records, as bytes; none where they can't be. -/
def wroteN (l : List RecD) : List Nat := if writeB l then putN l.length ++ recsN l else []
theorem wroteN_yes {l : List RecD} (h : writeB l = true) : wroteN l = putN l.length ++ recsN l := if_pos h
theorem wroteN_no {l : List RecD} (h : writeB l = false) : wroteN l = [] := if_neg (by rw [h]; decide)
theorem recsN_take {l : List RecD} {k : Nat} (hk : k < l.length) : recsN (l.take (k + 1)) = recsN (l.take k) ++ recN (recAt l k) := by
  rw [List.take_succ_eq_append_getElem hk, recsN_append]
  simp [recsN, recAt, List.getD, hk]
theorem recN_len {r : RecD} (h : recOkB r = true) : (recN r).length ≤ 9 := by
  have := recOkB_true.1 h
  have h1 := putN_len3 (n := r.k.toNat) (by omega)
  have h2 := putN_len3 (n := r.a.toNat) (by omega)
  have h3 := putN_len3 (n := r.b.toNat) (by omega)
  simp only [recN, List.length_append]
  omega
theorem recsN_len {l : List RecD} (h : allOk l = true) : (recsN l).length ≤ 9 * l.length := by
  induction l with
  | nil => simp [recsN]
  | cons r l ih =>
    simp only [allOk, List.all_cons, Bool.and_eq_true] at h
    have h1 := recN_len h.1
    have h2 := ih h.2
    simp only [recsN, List.length_append, List.length_cons]
    omega
theorem writeB_true {l : List RecD} (h : writeB l = true) : l.length ≤ 80 ∧ allOk l = true := by simpa [writeB] using h
theorem wroteN_len (l : List RecD) : (wroteN l).length ≤ 723 := by
  cases h : writeB l
  · rw [wroteN_no h]; simp
  · obtain ⟨h1, h2⟩ := writeB_true h
    rw [wroteN_yes h, List.length_append]
    have := recsN_len h2
    have := putN_len3 (n := l.length) (by omega)
    omega
theorem allOk_get {l : List RecD} (h : allOk l = true) {k : Nat} (hk : k < l.length) : recOkB (recAt l k) = true := by
  rw [← allOk_at] at h
  exact allB_true.1 h k hk
/-- What RecBytes answers. -/
def Wrote (l : List RecD) (w : World) (e : Ending) (w' : World) : Prop :=
  ∃ v, e = .returned (.tuple #[v, .bool (writeB l)]) ∧ OB w' w.heap.size v (wroteN l) ∧ Below w.heap.size w w'

end Go.Proofs.YtgaafcapjokecaaGreat
/- BeS -/
set_option linter.unusedVariables false
namespace Go.Proofs.YtgaafcapjokecaaGreat
open Go.RowKit

theorem allOk_take {l : List RecD} {k : Nat} (h : allOk (l.take k) = true) (hk : k < l.length) : allOk (l.take (k + 1)) = recOkB (recAt l k) := by
  unfold allOk at *
  rw [List.take_succ_eq_append_getElem hk, List.all_append, h]
  simp [recAt, List.getD, hk]
set_option maxRecDepth 100000 in
set_option maxHeartbeats 4000000 in
theorem specRecBytes_any (v : Value) (l : List RecD) (w : World) (h : Rt w w.heap.size v l) :
    Calls Tryz.prog 82 #[v] w (Wrote l w) := by
  have H := Lib.hid h
  obtain ⟨⟨A, c, rfl, -⟩, hl⟩ := h
  have hl' : l.length ≤ 2 ^ 63 - 1 := by unfold maxLen at hl; omega
  clear hl
  generalize hq : l.length = q at *
  have HQ := Lib.hid hq
  clear hq
  by_cases h80 : q ≤ 80
  · go_enter Tryz.func82, Tryz.ntmps82
    go_wp2_with fail
    have O1 : OB (w.alloc (.cells #[] 5)) w.heap.size (.slice (some ⟨w.heap.size, 0, none⟩) 0 0) [] := OB.empty (Nat.le_refl _)
    refine (put_any _ [] q w.heap.size _ O1 (by simp) (by omega) (by simp)).mono ?_
    rintro e w2 ⟨v2, rfl, O2, K2⟩
    have O2 : OB w2 w.heap.size v2 (putN q) := by simpa using O2
    have K2 := ((Below.refl w.heap.size w).alloc (Nat.le_refl _) (.cells #[] 5)).trans K2
    clear O1
    go_wp2_with fail
    go_loopw [4, 5] (fun s4 s5 wr => ∃ k : Nat, k ≤ q ∧ s5 = .int .i64 k ∧ allOk (l.take k) = true ∧ OB wr w.heap.size s4 (putN q ++ recsN (l.take k)) ∧ Below w.heap.size w wr) (fun _ s5 _ => q - (intOf s5).toNat)
    case atStart => exact ⟨0, Nat.zero_le _, rfl, rfl, by simpa [recsN] using O2, K2⟩
    case round =>
      clear O2 K2
      obtain ⟨k, hk, rfl, hall, O, K⟩ := hrel
      have HA := Lib.hid hall
      clear hall
      by_cases hlt : k < q
      · obtain ⟨b, off, rfl, hb, q0, q1, q2⟩ := (H.out.below K (Nat.le_refl _)).cell (i := k) (by rw [HQ.out]; exact hlt)
        have HT := Lib.hid (recsN_take (l := l) (k := k) (by rw [HQ.out]; exact hlt))
        have HR := Lib.hid (allOk_take HA.out (by rw [HQ.out]; exact hlt))
        have hlen : (putN q ++ recsN (l.take k)).length ≤ 1000 := by
          have h1 := putN_len3 (n := q) (by omega)
          have h2 := recsN_len HA.out
          rw [List.length_take] at h2
          rw [List.length_append]
          omega
        have HLEN := Lib.hid hlen
        generalize hrr : recAt l k = r at *
        have HRR := Lib.hid hrr
        have HO := Lib.hid O
        have HK := Lib.hid K
        clear O K hlen hrr
        cases hok : recOkB r
        · have HOK := Lib.hid hok
          clear hok
          go_wp2_with fail
          refine (specRecOk_any r _).mono ?_
          rintro e w3 ⟨rfl, hb3⟩
          rw [HOK.out]
          go_wp2_with fail
          go_ret2
          have hW : writeB l = false := by
            cases hw : writeB l
            · rfl
            · have := allOk_get (writeB_true hw).2 (k := k) (by rw [HQ.out]; exact hlt)
              rw [HRR.out, HOK.out] at this
              cases this
          refine ⟨_, ret_two rfl (bool_eq hW.symm), ?_, (HK.out.trans (hb3.mono HK.out.size)).alloc (Nat.le_trans HK.out.size hb3.size) _⟩
          rw [wroteN_no hW]
          exact OB.empty (Nat.le_trans HK.out.size hb3.size)
        · have HOK := Lib.hid hok
          obtain ⟨rk, ra, rb⟩ := r
          have hr := recOkB_true.1 hok
          dsimp only at hr q0 q1 q2
          obtain ⟨nk, rfl⟩ := Int.eq_ofNat_of_zero_le (show 0 ≤ rk by omega)
          obtain ⟨na, rfl⟩ := Int.eq_ofNat_of_zero_le (show 0 ≤ ra by omega)
          obtain ⟨nb, rfl⟩ := Int.eq_ofNat_of_zero_le (show 0 ≤ rb by omega)
          clear hok
          go_wp2_with fail
          refine (specRecOk_any ⟨nk, na, nb⟩ _).mono ?_
          rintro e w3 ⟨rfl, hb3⟩
          rw [HOK.out]
          have q0 := (hb3.cell (p := ⟨b, off + k * 3, none⟩) (by have := HK.out.size; show b < _; omega)).trans q0
          have q1 := (hb3.cell (p := ⟨b, off + k * 3 + 1, none⟩) (by have := HK.out.size; show b < _; omega)).trans q1
          have q2 := (hb3.cell (p := ⟨b, off + k * 3 + 2, none⟩) (by have := HK.out.size; show b < _; omega)).trans q2
          have HO := Lib.hid (HO.out.below hb3)
          have HK := Lib.hid (HK.out.trans (hb3.mono HK.out.size))
          go_wp2_with fail
          have S3 : w3.cell? ⟨b, off + k * 3, none⟩ = some (.int .i64 nk) ∧ w3.cell? ⟨b, off + k * 3 + 1, none⟩ = some (.int .i64 na) ∧ w3.cell? ⟨b, off + k * 3 + 2, none⟩ = some (.int .i64 nb) := ⟨q0, q1, q2⟩
          have c0 : Hid (∀ w4 : World, Below w.heap.size w3 w4 → w4.cell? ⟨b, off + k * 3, none⟩ = some (.int .i64 nk) ∧ w4.cell? ⟨b, off + k * 3 + 1, none⟩ = some (.int .i64 na) ∧ w4.cell? ⟨b, off + k * 3 + 2, none⟩ = some (.int .i64 nb)) := Lib.hid fun w4 h4 =>
            ⟨(h4.cell (p := ⟨b, off + k * 3, none⟩) hb).trans q0, (h4.cell (p := ⟨b, off + k * 3 + 1, none⟩) hb).trans q1, (h4.cell (p := ⟨b, off + k * 3 + 2, none⟩) hb).trans q2⟩
          have hsz := HK.out.size
          have hnk : nk < 2097152 := by omega
          have hna : na < 2097152 := by omega
          have hnb : nb < 2097152 := by omega
          have hl1 := HLEN.out
          have hl2 : ((putN q ++ recsN (l.take k)) ++ putN nk).length ≤ 2000 := by rw [List.length_append]; have := putN_len3 hnk; omega
          have hl3 : (((putN q ++ recsN (l.take k)) ++ putN nk) ++ putN na).length ≤ 3000 := by rw [List.length_append]; have := putN_len3 hna; omega
          have HL1 := Lib.hid hl1
          have HL2 := Lib.hid hl2
          have HL3 := Lib.hid hl3
          clear hl1 hl2 hl3 q0 q1 q2
          go_region_held3 (fun w' => w'.cell? ⟨b, off + k * 3, none⟩ = some (.int .i64 nk) ∧ w'.cell? ⟨b, off + k * 3 + 1, none⟩ = some (.int .i64 na) ∧ w'.cell? ⟨b, off + k * 3 + 2, none⟩ = some (.int .i64 nb))
            (first | exact S3 | exact S4 | exact S5 | exact S6)
            (first
              | (have hq := O5
                 clear hq
                 go_at_call 94
                 refine (put_any v5 _ nb w.heap.size _ O5.out (Nat.le_trans hsz (Nat.le_trans K4.out.size K5.out.size)) hnb (Nat.le_trans HL3.out (by decide))).mono ?_
                 rintro e w6 ⟨v6, rfl, O6, K6⟩
                 have O6 := Lib.hid O6
                 have K6 := Lib.hid K6
                 have S6 := c0.out _ ((K4.out.trans K5.out).trans K6.out))
              | (have hq := O4
                 clear hq
                 go_at_call 94
                 refine (put_any v4 _ na w.heap.size _ O4.out (Nat.le_trans hsz K4.out.size) hna (Nat.le_trans HL2.out (by decide))).mono ?_
                 rintro e w5 ⟨v5, rfl, O5, K5⟩
                 have O5 := Lib.hid O5
                 have K5 := Lib.hid K5
                 have S5 := c0.out _ (K4.out.trans K5.out))
              | (go_at_call 94
                 refine (put_any _ _ nk w.heap.size _ (HO.out.below (Below.refl _ _).drew) hsz hnk (Nat.le_trans HL1.out (by decide))).mono ?_
                 rintro e w4 ⟨v4, rfl, O4, K4⟩
                 have O4 := Lib.hid O4
                 have K4 := Lib.hid ((Below.refl w.heap.size w3).drew.trans K4)
                 have S4 := c0.out _ K4.out))
          clear S3 S4 S5 S6 c0
          have HT6 := Lib.hid ((K4.out.trans K5.out).trans K6.out)
          go_wp2_with fail
          refine ⟨⟨k + 1, by omega, by go_num, by rw [HR.out]; exact HOK.out, ?_, HK.out.trans HT6.out⟩, by simp [intOf]; omega⟩
          rw [HT.out]
          have := O6.out
          simpa [recN] using this
      · obtain rfl : k = q := by omega
        go_wp2
        go_ret2
        have e1 : l.take k = l := List.take_of_length_le (by rw [HQ.out]; exact Nat.le_refl _)
        have hA := HA.out
        rw [e1] at O hA
        have hW : writeB l = true := by simp [writeB, HQ.out, h80, hA]
        refine ⟨_, ret_two rfl (bool_eq hW.symm), ?_, K⟩
        rw [wroteN_yes hW, HQ.out]
        exact O
  · have hW : Hid (writeB l = false) := Lib.hid (by simp [writeB, HQ.out, h80])
    go_enter Tryz.func82, Tryz.ntmps82
    go_wp2_with fail
    go_ret2
    refine ⟨_, ret_two rfl (bool_eq hW.out.symm), ?_, (Below.refl _ _).alloc (Nat.le_refl _) _⟩
    rw [wroteN_no hW.out]
    exact OB.empty (Nat.le_refl _)
end Go.Proofs.YtgaafcapjokecaaGreat
/- Ea -/
set_option linter.unusedVariables false
namespace Go.Proofs.YtgaafcapjokecaaGreat
open Go.RowKit

theorem sumN_take {L : List Nat} {k : Nat} (hk : k < L.length) : sumN (L.take (k + 1)) = (31 * sumN (L.take k) + L.getD k 0) % 65521 := by
  rw [List.take_succ_eq_append_getElem hk]
  unfold sumN
  rw [List.foldl_append]
  simp [List.getD, hk]
set_option maxHeartbeats 1000000 in
theorem specSumOf_any (v : Value) (L : List Nat) (w : World) (h : Bt w w.heap.size v L) :
    Calls Tryz.prog 84 #[v] w fun e w' => e = .returned (.int .i64 (sumN L)) ∧ w = w' := by
  have H := Lib.hid h
  obtain ⟨⟨A, c, rfl, hcap, -⟩, hl, hs⟩ := h
  have HS := Lib.hid hs
  have hl' : L.length ≤ 2 ^ 63 - 1 := by unfold maxLen at hl; omega
  clear hs hl hcap
  generalize hn : L.length = n at *
  have HN := Lib.hid hn
  clear hn
  go_enter Tryz.func84, Tryz.ntmps84
  go_wp2
  go_loop [3, 4] (fun s3 s4 => ∃ k : Nat, k ≤ n ∧ s4 = .int .i64 k ∧ s3 = .int .i64 (sumN (L.take k))) (fun _ s4 => n - (intOf s4).toNat)
  case atStart => exact ⟨0, Nat.zero_le _, rfl, rfl⟩
  case round =>
    obtain ⟨k, hk, rfl, rfl⟩ := hrel
    by_cases hlt : k < n
    · obtain ⟨b, off, rfl, hb, q⟩ := H.out.cell (k := k) (by rw [HN.out]; exact hlt)
      have zlt := HS.out.getD k
      have hsum := Lib.hid (sumN_take (L := L) (k := k) (by rw [HN.out]; exact hlt))
      have slt := sumN_lt (L.take k)
      generalize L.getD k 0 = z at *
      generalize sumN (L.take k) = s at *
      go_wp2
      refine ⟨⟨k + 1, by omega, by go_num, ?_⟩, by simp [intOf]; omega⟩
      rw [hsum.out]
      go_num
    · obtain rfl : k = n := by omega
      have e1 := Lib.hid (show L.take k = L from List.take_of_length_le (by rw [HN.out]; exact Nat.le_refl _))
      go_wp2
      go_ret
      exact ⟨by rw [e1.out]; rfl, rfl⟩

end Go.Proofs.YtgaafcapjokecaaGreat
/- Ek -/
set_option linter.unusedVariables false
namespace Go.Proofs.YtgaafcapjokecaaGreat
open Go.RowKit

theorem OB.two {w : World} {B : Nat} (hB : B ≤ w.heap.size) {x y : Nat} (hx : x < 256) (hy : y < 256) : OB (w.alloc (.cells #[.int .u8 x, .int .u8 y] 5)) B (.slice (some ⟨w.heap.size, 0, none⟩) 2 2) [x, y] := by
  refine ⟨⟨rfl, .inr ⟨w.heap.size, 2, _, rfl, hB, heap_alloc_new w _, Nat.le_refl _, by unfold maxLen; decide, rfl, rfl⟩⟩, fun z hz => ?_⟩
  rcases List.mem_cons.1 hz with rfl | hz
  · exact hx
  · obtain rfl : z = y := by simpa using hz
    exact hy
set_option maxHeartbeats 400000 in
theorem l4Two_any (n : Nat) (w : World) (hn : n < 65536) :
    Calls Tryz.prog 83 #[.int .i64 n] w fun e w' => ∃ v, e = .returned v ∧ OB w' w.heap.size v (twoN n) ∧ Below w.heap.size w w' := by
  go_enter Tryz.func83, Tryz.ntmps83
  go_wp2
  go_ret
  refine ⟨_, rfl, ?_, (Below.refl _ _).alloc (Nat.le_refl _) _⟩
  have := OB.two (w := w) (Nat.le_refl _) (x := n % 256) (y := n / 256) (by omega) (by omega)
  first
    | exact this
    | (simpa [twoN] using this)

/-- What Framed answers. -/
def framedD (l : List RecD) : List Nat := if writeB l then frameN (wroteN l) else []
theorem framedD_yes {l : List RecD} (h : writeB l = true) : framedD l = frameN (wroteN l) := if_pos h
theorem framedD_no {l : List RecD} (h : writeB l = false) : framedD l = [] := if_neg (by rw [h]; decide)
def FramedD (l : List RecD) (w : World) (e : Ending) (w' : World) : Prop :=
  ∃ v, e = .returned (.tuple #[v, .bool (writeB l)]) ∧ OB w' w.heap.size v (framedD l) ∧ Below w.heap.size w w'
theorem wroteN_pos {l : List RecD} (h : writeB l = true) : 0 < (wroteN l).length := by
  rw [wroteN_yes h, List.length_append]
  have := putN_pos l.length
  omega
theorem news_bytes {w : World} {g : Nat} {L : List Nat} (hC : ∀ j, j < L.length → w.cell? ⟨g, j, none⟩ = some (.int .u8 (L.getD j 0 : Nat))) : ∀ j u, (L.map byteV)[j]? = some u → w.cell? ((⟨g, 0, none⟩ : Addr).add j) = some u := fun j u hu => by
  have hj : j < L.length := by
    have := (List.getElem?_eq_some_iff.1 hu).1
    simpa using this
  rw [byteV_get hj] at hu
  cases hu
  rw [add_zero_block]
  exact hC j hj
theorem one_bytes {L : List Nat} : ∀ u ∈ L.map byteV, u.oneCell' = true := fun u hu => by
  obtain ⟨z, _, rfl⟩ := List.mem_map.1 hu
  rfl
set_option maxRecDepth 100000 in
set_option maxHeartbeats 2000000 in
theorem specFramed_any (v : Value) (l : List RecD) (w : World) (h : Rt w w.heap.size v l) :
    Calls Tryz.prog 76 #[v] w (FramedD l w) := by
  have H := Lib.hid h
  obtain ⟨i0, hi, hz0, hz1, hz2⟩ := info_parts info_u8
  have HI := Lib.hid hi
  have HZ0 := Lib.hid hz0
  have HZ1 := Lib.hid hz1
  have HZ2 := Lib.hid hz2
  clear h hi hz0 hz1 hz2
  go_enter Tryz.func76, Tryz.ntmps76
  go_wp2_with fail
  refine (specRecBytes_any v l w H.out).mono ?_
  rintro e w1 ⟨v1, rfl, O1, K1⟩
  have HO1 := Lib.hid O1
  have HK1 := Lib.hid K1
  have hlen := wroteN_len l
  have hbt := O1.bt
  obtain ⟨A1, c1, g1, rfl, hcap, hA1, hB1, hg1, C1⟩ := O1.open_
  have HBT := Lib.hid hbt
  have HC1 := Lib.hid C1
  clear O1 K1 hbt C1
  cases hw : writeB l
  · have HW := Lib.hid hw
    clear hw
    go_wp2_with fail
    go_ret2
    refine ⟨_, ret_two rfl (bool_eq HW.out.symm), ?_, HK1.out.alloc HK1.out.size _⟩
    rw [framedD_no HW.out]
    exact OB.empty HK1.out.size
  · have HW := Lib.hid hw
    have hpos := wroteN_pos hw
    have hg1' := hg1 hpos
    obtain rfl := hA1 hpos
    clear hw hg1 hA1
    have HF := Lib.hid (framedD_yes HW.out)
    generalize wroteN l = M at *
    generalize hm : M.length = m at *
    have HM := Lib.hid hm
    clear hm
    go_wp2_with fail
    refine (l4Two_any m w1 (by omega)).mono ?_
    rintro e w2 ⟨v2, rfl, O2, K2⟩
    have HO2 := Lib.hid O2
    have HK2 := Lib.hid K2
    clear O2 K2
    go_wp2_with fail
    refine (specSumOf_any _ M w2 (HBT.out.go HK2.out)).mono ?_
    rintro e w3 ⟨rfl, rfl⟩
    have hs := sumN_lt M
    generalize hsm : sumN M = s at *
    have HSM := Lib.hid hsm
    clear hsm
    go_wp2_with fail
    refine (l4Two_any s w2 (by omega)).mono ?_
    rintro e w3 ⟨v3, rfl, O3, K3⟩
    have HO3 := Lib.hid O3
    have HK3 := Lib.hid K3
    have hl3 : (twoN s).length = 2 := rfl
    obtain ⟨A3, c3, g3, rfl, hcap3, hA3, hB3, hg3, C3⟩ := O3.open_
    obtain rfl := hA3 (by rw [hl3]; decide)
    have HC3 := Lib.hid C3
    clear O3 K3 hA3 hg3 C3
    rw [hl3] at *
    have HR2 := Lib.hid (ownsRow_below HO2.out.own HK3.out)
    have hl2 : (twoN m).length = 2 := rfl
    rw [hl2] at HR2
    have hb3 := Nat.le_trans HK2.out.size HK3.out.size
    have HN3 : Hid (∀ j u, ((twoN s).map byteV)[j]? = some u → w3.cell? ((⟨g3, 0, none⟩ : Addr).add j) = some u) := Lib.hid (news_bytes fun j hj => (HC3.out j hj).1)
    have HK := Lib.hid ((HK1.out.trans (HK2.out.mono HK1.out.size)).trans (HK3.out.mono (Nat.le_trans HK1.out.size HK2.out.size)))
    have HN1 : Hid (∀ j, j < M.length → w3.cell? ⟨g1, j, none⟩ = some (.int .u8 (M.getD j 0 : Nat))) := Lib.hid fun j hj =>
      ((HK3.out.mono HK2.out.size).cell (p := ⟨g1, j, none⟩) hg1').trans ((HK2.out.cell (p := ⟨g1, j, none⟩) hg1').trans (HC1.out j (by rw [HM.out] at hj; exact hj)).1)
    have HV2 : Hid (∀ r, v2.ownBlock = some r → w1.heap.size ≤ r) := Lib.hid fun r hr => (HO2.out.lt hr).1
    have HS : Hid (SmallB (frameN M)) := Lib.hid (by
      unfold frameN
      rw [HM.out, HSM.out]
      exact HO2.out.small.append (HO3.out.small.append HO1.out.small))
    clear HC1 HC3 HK2 HK3 HBT HO3
    go_wp2_with (first
      | (at_builtin; refine wpList_append_own _ rfl _ _ 22 rfl w1.heap.size 5 i0 (.int .u8 0) 1 1 Tryz.underlying22 HI.out HZ0.out HZ1.out HZ2.out rfl (by decide) v2 2 _ rfl HR2.out ⟨g3, 0, none⟩ 2 c3 ((twoN s).map byteV) rfl rfl HN3.out one_bytes (by unfold maxLen; decide) (by decide) hb3 ?_; clear HR2; intro v4 w4 hown4 hgrow4 hnil4; have HR4 := Lib.hid hown4; have HG4 := Lib.hid hgrow4; clear hown4 hgrow4)
      | (at_builtin; (refine wpList_append_own _ rfl _ _ 22 rfl w1.heap.size 5 i0 (.int .u8 0) 1 1 Tryz.underlying22 HI.out HZ0.out HZ1.out HZ2.out rfl (by decide) v4 4 _ rfl HR4.out ⟨g1, 0, none⟩ m c1 (M.map byteV) rfl (by rw [List.length_map, HM.out, Nat.mul_one]) (news_bytes fun j hj => HG4.out.cell (HN1.out j hj) (fun e => by have : w1.heap.size ≤ g1 := HV2.out g1 e.symm; omega)) one_bytes (by unfold maxLen; omega) (by omega) (Nat.le_trans hb3 HG4.out.size) ?_; intro v5 w5 hown5 hgrow5 hnil5)))
    go_ret2
    refine ⟨_, ret_two rfl (bool_eq HW.out.symm), ⟨?_, by rw [HF.out]; exact HS.out⟩, ?_⟩
    · rw [HF.out, frameN_length]
      have e1 : (frameN M).map byteV = (twoN m).map byteV ++ (twoN s).map byteV ++ M.map byteV := by
        unfold frameN
        rw [HM.out, HSM.out, List.map_append, List.map_append, List.append_assoc]
      rw [e1, HM.out]
      exact ownsRow_base hown5 HK1.out.size
    · exact (HK.out.grown HG4.out HK.out.size (fun r hr => Nat.le_trans HK1.out.size (HV2.out r hr))).grown hgrow5 (Nat.le_trans HK.out.size HG4.out.size) (fun r hr => Nat.le_trans HK1.out.size (World.ownsRow.lt HR4.out r hr).1)
end Go.Proofs.YtgaafcapjokecaaGreat
/- El -/
set_option linter.unusedVariables false
namespace Go.Proofs.YtgaafcapjokecaaGreat
open Go.RowKit

end Go.Proofs.YtgaafcapjokecaaGreat
/- Fj -/
set_option linter.unusedVariables false
namespace Go.Proofs.YtgaafcapjokecaaGreat
open Go.RowKit

/-- A slice that has a place, or nil. -/
def Real (v : Value) : Prop := v = .slice none 0 0 ∨ ∃ ad m c, v = .slice (some ad) m c
theorem OB.real {w : World} {B : Nat} {v : Value} {L : List Nat} (h : OB w B v L) : Real v := by
  rcases h.own.2 with ⟨h0, -⟩ | ⟨g, cap, cur, rfl, -⟩
  · exact .inl h0
  · exact .inr ⟨_, _, _, rfl⟩
def headOf (v : Value) (p : Nat) : Value := match v with
  | .slice none _ _ => .slice none 0 0
  | .slice (some ad) _ c => .slice (some ad) p c
  | v => v
theorem Real.head {v : Value} (h : Real v) (p : Nat) : Real (headOf v p) := by
  rcases h with rfl | ⟨ad, m, c, rfl⟩
  · exact .inl rfl
  · exact .inr ⟨_, _, _, rfl⟩
theorem Bt.slice_len {w : World} {B : Nat} {A : Option Addr} {m c : Nat} {L : List Nat} (h : Bt w B (.slice A m c) L) : L.length = m ∧ m ≤ c := by
  obtain ⟨⟨A', c1, hv, hcap, hc⟩, hl, hs⟩ := h
  injection hv with h1 h2 h3
  subst h2 h3
  exact ⟨rfl, hcap⟩
theorem Bt.head {w : World} {B p : Nat} {v : Value} {L : List Nat} (h : Bt w B v L) (hr : Real v) (hp : p ≤ L.length) : Bt w B (headOf v p) (L.take p) := by
  rcases hr with rfl | ⟨ad, m, c, rfl⟩
  · have e := h.slice_len.1
    have : L = [] := List.eq_nil_of_length_eq_zero e
    subst this
    simpa [headOf] using Bt.nil w B none 0
  · exact h.take hp (by have := h.slice_len; omega)

theorem wpList_append_bt {w : World} {ops : Array Oper} {rest : List Oper} {o : Oper} {a : Act} {Q : Exit → Act → World → Prop} (hgd : o.guard = none) (s x : Operand)
    (ho : o.op = .call { callee := .builtin .append, args := #[s, x], argTypes := #[22, 22] }) (base : Nat) (v : Value) (M : List Nat) (hs : a.eval s = v) (hown : OB w base v M)
    (u : Value) (L : List Nat) (hx : a.eval x = u) {B : Nat} (hb : Bt w B u L) (hr : Real u) (hlen : M.length + L.length ≤ 8388608) (hbase : base ≤ w.heap.size)
    (h : ∀ v' w', OB w' base v' (M ++ L) → w.grownBy w' v.ownBlock → wpList Tryz.prog ops Q rest (a.put o.dst v') w') : wpList Tryz.prog ops Q (o :: rest) a w := by
  obtain ⟨i0, hi, hz0, hz1, hz2⟩ := info_parts info_u8
  rcases hr with rfl | ⟨ad, m, c, rfl⟩
  · have hL : L = [] := List.eq_nil_of_length_eq_zero hb.slice_len.1
    subst hL
    refine wpList_append_own_none hgd s x 22 ho base 5 i0 1 Tryz.underlying22 hi v M.length _ hs hown.own hx ?_
    have := h v w (by rw [List.append_nil]; exact hown) ⟨rfl, rfl, rfl, Nat.le_refl _, fun _ _ _ => rfl⟩
    exact this
  · obtain ⟨hm, hmc⟩ := hb.slice_len
    refine wpList_append_own w hgd s x 22 ho base 5 i0 (.int .u8 0) 1 1 Tryz.underlying22 hi hz0 hz1 hz2 rfl (by decide) v M.length _ hs hown.own ad m c (L.map byteV) hx (by rw [List.length_map, hm, Nat.mul_one]) ?_ one_bytes (by unfold maxLen; omega) (by omega) hbase ?_
    · intro j y hy
      have hj : j < L.length := by
        have := (List.getElem?_eq_some_iff.1 hy).1
        simpa using this
      rw [byteV_get hj] at hy
      cases hy
      obtain ⟨b, off, e, hb1, q⟩ := hb.cell hj
      cases e
      have ha : (⟨b, off, none⟩ : Addr).add j = ⟨b, off + j, none⟩ := by unfold Addr.add; split <;> simp_all
      rw [ha]
      exact q
    · intro v' w' h1 h2 _
      exact h v' w' ⟨by rw [List.length_append, List.map_append, hm]; exact h1, hown.small.append hb.small⟩ h2
end Go.Proofs.YtgaafcapjokecaaGreat
/- Sa -/
set_option linter.unusedVariables false
namespace Go.Proofs.YtgaafcapjokecaaGreat
open Go.RowKit
/-- Block g holds n whole numbers, as x tells, and no more. -/
structure Cells (w : World) (g n : Nat) (x : Nat → Int) : Prop where
  it : ∃ cur, w.heap[g]? = some (.cells cur 2 (0, 0)) ∧ cur.size = n ∧ ∀ j, j < n → cur[j]? = some (.int .i64 (x j))
theorem Cells.lt {w : World} {g n : Nat} {x : Nat → Int} (h : Cells w g n x) : g < w.heap.size := by
  obtain ⟨cur, hh, _⟩ := h
  exact (Array.getElem?_eq_some_iff.1 hh).1
theorem Cells.at_ {w : World} {g n : Nat} {x : Nat → Int} (h : Cells w g n x) {j : Nat} (hj : j < n) : w.cell? ⟨g, j, none⟩ = some (.int .i64 (x j)) ∧ w.frozen? ⟨g, j, none⟩ = false := by
  obtain ⟨cur, hh, _, hc⟩ := h
  exact ⟨(cell_of_row _ _ _ _ _ _ hh).trans (hc j hj), frozen_of_row _ _ _ _ _ hh⟩
theorem Cells.set {w : World} {g n : Nat} {x : Nat → Int} (h : Cells w g n x) (i : Nat) (v : Int) : Cells (w.setCell ⟨g, i, none⟩ (.int .i64 v)) g n (fun j => if j = i then v else x j) := by
  obtain ⟨cur, hh, hs, hc⟩ := h
  refine ⟨cur.setIfInBounds i (.int .i64 v), ?_, by simp [hs], fun j hj => ?_⟩
  · rw [Go.Sort.setCell_eq]
    simp [Go.Sort.mapBlock, Array.getElem?_modify, hh, Go.Sort.onCells]
  · by_cases e : j = i
    · subst e
      simp [hs, hj]
    · rw [Array.getElem?_setIfInBounds_ne (fun he => e he.symm), hc j hj, if_neg e]
theorem Cells.congr {w : World} {g n : Nat} {x y : Nat → Int} (h : Cells w g n x) (e : ∀ j, j < n → x j = y j) : Cells w g n y := by
  obtain ⟨cur, hh, hs, hc⟩ := h
  exact ⟨cur, hh, hs, fun j hj => by rw [hc j hj, e j hj]⟩
theorem Cells.drewN {w : World} {g n : Nat} {x : Nat → Int} (h : Cells w g n x) (q : Nat) : Cells (w.drewN q) g n x := ⟨h.it⟩
/-- The same numbers, in whichever order and however often. -/
structure Same (n : Nat) (x y : Nat → Int) : Prop where
  there : ∀ j, j < n → ∃ k, k < n ∧ y k = x j
  back : ∀ k, k < n → ∃ j, j < n ∧ y k = x j
theorem Same.refl (n : Nat) (x : Nat → Int) : Same n x x := ⟨fun j hj => ⟨j, hj, rfl⟩, fun j hj => ⟨j, hj, rfl⟩⟩
/-- Up to m all rise (or stay), but for what lies at place j, which may be too small for its place. -/
def RiseBut (y : Nat → Int) (m j : Nat) : Prop := ∀ a b, a < b → b < m → b ≠ j → y a ≤ y b
def Rises (y : Nat → Int) (m : Nat) : Prop := ∀ a b, a < b → b < m → y a ≤ y b
theorem Rises.but {y : Nat → Int} {m : Nat} (h : Rises y m) : RiseBut y (m + 1) m := fun a b h1 h2 h3 => h a b h1 (by omega)
end Go.Proofs.YtgaafcapjokecaaGreat
/- Sb -/
set_option linter.unusedVariables false
namespace Go.Proofs.YtgaafcapjokecaaGreat
open Go.RowKit

/-- Of the first m those that are not as the one ahead of them. -/
def dd (x : Nat → Int) : Nat → List Int
  | 0 => []
  | m + 1 => if m = 0 ∨ x m ≠ x (m - 1) then dd x m ++ [x m] else dd x m
theorem dd_new {x : Nat → Int} {m : Nat} (h : m = 0 ∨ x m ≠ x (m - 1)) : dd x (m + 1) = dd x m ++ [x m] := if_pos h
theorem dd_old {x : Nat → Int} {m : Nat} (hm : 0 < m) (h : x m = x (m - 1)) : dd x (m + 1) = dd x m := if_neg (by omega)
/-- Where no two neighbours are alike all stay. -/
theorem dd_all {x : Nat → Int} : ∀ {m : Nat}, (∀ j, 0 < j → j < m → x j ≠ x (j - 1)) → (dd x m).length = m ∧ ∀ j, j < m → x j = (dd x m).getD j 0
  | 0, _ => ⟨rfl, fun j hj => by omega⟩
  | m + 1, h => by
    obtain ⟨h1, h2⟩ := dd_all (m := m) fun j h0 hj => h j h0 (by omega)
    have hn : m = 0 ∨ x m ≠ x (m - 1) := by
      by_cases e : m = 0
      · exact .inl e
      · exact .inr (h m (by omega) (by omega))
    rw [dd_new hn]
    refine ⟨by simp [h1], fun j hj => ?_⟩
    by_cases e : j = m
    · subst e
      simp [List.getD, h1]
    · rw [h2 j (by omega)]
      simp [List.getD, List.getElem?_append_left (show j < (dd x m).length by omega)]

/-- Of the first m places' numbers those that stay lie ahead; behind them all is as it was. -/
structure Moved (x y : Nat → Int) (n m k : Nat) : Prop where
  len : (dd x m).length = k
  lt : k < m
  low : ∀ j, j < k → y j = (dd x m).getD j 0
  high : ∀ j, k ≤ j → j < n → y j = x j
theorem Moved.old {x y : Nat → Int} {n m k : Nat} (h : Moved x y n m k) (hm : 0 < m) (e : x m = x (m - 1)) : Moved x y n (m + 1) k := by
  obtain ⟨h1, h2, h3, h4⟩ := h
  exact ⟨by rw [dd_old hm e]; exact h1, by omega, by rw [dd_old hm e]; exact h3, h4⟩
theorem Moved.new {x y : Nat → Int} {n m k : Nat} (h : Moved x y n m k) (e : x m ≠ x (m - 1)) : Moved x (fun j => if j = k then x m else y j) n (m + 1) (k + 1) := by
  obtain ⟨h1, h2, h3, h4⟩ := h
  refine ⟨by rw [dd_new (.inr e)]; simp [h1], by omega, fun j hj => ?_, fun j h5 h6 => ?_⟩
  · rw [dd_new (.inr e)]
    by_cases e2 : j = k
    · rw [if_pos e2, e2]
      simp [List.getD, ← h1]
    · rw [if_neg e2, h3 j (by omega)]
      simp [List.getD, List.getElem?_append_left (show j < (dd x m).length by omega)]
  · rw [if_neg (by omega)]
    exact h4 j (by omega) h6

/-- What Compact leaves. -/
def Compacted (g n : Nat) (x : Nat → Int) (w : World) (e : Ending) (w' : World) : Prop :=
  e = .returned (.slice (some ⟨g, 0, none⟩) (dd x n).length n) ∧ ∃ y, Cells w' g n y ∧ (∀ j, j < (dd x n).length → y j = (dd x n).getD j 0) ∧ Keeps (· = g) w w'
theorem Compacted.same {g n : Nat} {x : Nat → Int} {w w' : World} (h : ∀ j, 0 < j → j < n → x j ≠ x (j - 1)) (hX : Cells w' g n x) (hK : Keeps (· = g) w w') : Compacted g n x w (.returned (.slice (some ⟨g, 0, none⟩) n n)) w' := by
  obtain ⟨h1, h2⟩ := dd_all h
  exact ⟨by rw [h1], x, hX, by rw [h1]; exact h2, hK⟩

end Go.Proofs.YtgaafcapjokecaaGreat
/- Da -/
set_option linter.unusedVariables false
namespace Go.Proofs.YtgaafcapjokecaaGreat
open Go.RowKit

/-- Block g holds just cs, all writable. -/
structure Blk (w : World) (g : Nat) (cs : Array Value) : Prop where
  z : g < w.heap.size
  C : ∀ o, w.cell? ⟨g, o, none⟩ = cs[o]?
  F : ∀ o, w.frozen? ⟨g, o, none⟩ = false
theorem Blk.new (w : World) (cs : Array Value) (t : TypeId) : Blk (w.alloc (.cells cs t)) w.heap.size cs := ⟨by simp, cell_new w cs t, fun o => frozen_of_row _ _ _ _ _ (heap_alloc_new w _)⟩
theorem Blk.keeps {S : Nat → Prop} {w w' : World} {g : Nat} {cs : Array Value} (h : Blk w g cs) (k : Keeps S w w') (hn : ¬ S g) : Blk w' g cs :=
  ⟨Nat.lt_of_lt_of_le h.z k.size, fun o => (k.cell (p := ⟨g, o, none⟩) h.z hn).trans (h.C o), fun o => (k.frozen (p := ⟨g, o, none⟩) h.z hn).trans (h.F o)⟩
theorem Blk.below {w w' : World} {g : Nat} {cs : Array Value} (h : Blk w g cs) (hb : Below w.heap.size w w') : Blk w' g cs := h.keeps (S := fun _ => False) (Keeps.of_below hb) id
theorem Blk.alloc {w : World} {g : Nat} {cs : Array Value} (h : Blk w g cs) (o : Obj) : Blk (w.alloc o) g cs := h.below ((Below.refl _ _).alloc (Nat.le_refl _) _)
theorem Blk.set {w : World} {g : Nat} {cs : Array Value} (h : Blk w g cs) {i : Nat} (hi : i < cs.size) (v : Value) : Blk (w.setCell ⟨g, i, none⟩ v) g (cs.setIfInBounds i v) :=
  ⟨by simpa [World.setCell] using h.z, fun o => by
    by_cases e : o = i
    · subst e
      rw [World.cell?_setCell_same _ _ _ ((h.C o).trans (Array.getElem?_eq_getElem hi))]
      simp [hi]
    · rw [World.cell?_setCell_other _ _ _ _ (fun he => e (by injection he with _ h2 _; exact h2.symm)), h.C o, Array.getElem?_setIfInBounds_ne (fun he => e he.symm)],
   fun o => by rw [World.frozen?_setCell]; exact h.F o⟩

theorem Keeps.far {S : Nat → Prop} {w w' : World} (h : Keeps S w w') {p : Addr} (hp : w.heap.size ≤ p.block) (v : Value) : Keeps S w (w'.setCell p v) :=
  ⟨h.os, h.tape, h.output, by simpa [World.setCell] using h.size, fun b hb hn => (Below.heap_setCell _ _ _ _ (fun e => by omega)).trans (h.block b hb hn)⟩
theorem Keeps.alloc {S : Nat → Prop} {w w' : World} (h : Keeps S w w') (o : Obj) : Keeps S w (w'.alloc o) := h.trans (Keeps.of_below ((Below.refl _ _).alloc (Nat.le_refl _) o))
theorem Cur.far {T : TypeId} {k : IntKind} {w : World} {g : Nat} (h : Cur T k w g) {p : Addr} (hp : g < p.block) (v : Value) : Cur T k (w.setCell p v) g :=
  h.keeps (S := (· = p.block)) ((Keeps.refl (· = p.block) w).set (p := p) rfl v) (fun b hb e => by have e : b = p.block := e; omega)
theorem Cur.alloc {T : TypeId} {k : IntKind} {w : World} {g : Nat} (h : Cur T k w g) (o : Obj) : Cur T k (w.alloc o) g := h.below ((Below.refl _ _).alloc (Nat.le_refl _) o)

end Go.Proofs.YtgaafcapjokecaaGreat
/- Dm -/
set_option linter.unusedVariables false
namespace Go.Proofs.YtgaafcapjokecaaGreat
open Go.RowKit

def noByte : Value → Bool
  | .int .u8 _ => false
  | _ => true
theorem keepsRow_ (W : World) (g : Nat) (cs : Array Value) : Keeps (· = g) W (W.setRow g cs) := ⟨rfl, rfl, rfl, by simp, fun b hb hn => setRow_other W g b cs hn⟩
theorem Cur.row {T T' : TypeId} {k : IntKind} {w : World} {g B : Nat} {cs : Array Value} (h : Cur T k w g) (hb : w.heap[B]? = some (.cells cs T' (0, 0))) (hs : cs.all noByte = true) (hne : ¬ B = g) (cs' : Array Value) : Cur T k (w.setRow B cs') g := by
  have kk := keepsRow_ w B cs'
  have hlt := h.lt
  obtain ⟨A, n, c, i, hh, hg, i0, i1, hm, hB⟩ := h
  refine ⟨A, n, c, i, hh, (kk.block g hlt (by show ¬ g = B; omega)).trans hg, i0, i1, hm, fun hn => ?_⟩
  obtain ⟨b, off, rfl, hbl, hc⟩ := hB hn
  have hbB : ¬ b = B := by
    rintro rfl
    obtain ⟨z, hz, -⟩ := hc 0 hn
    rw [cell_of_row _ _ _ _ _ _ hb] at hz
    have := Array.all_eq_true.1 hs (off + 0) (Array.getElem?_eq_some_iff.1 hz).1
    rw [(Array.getElem?_eq_some_iff.1 hz).2] at this
    simp [noByte] at this
  exact ⟨b, off, rfl, hbl, fun j hj => by
    obtain ⟨z, hz, hr⟩ := hc j hj
    exact ⟨z, (kk.cell (p := ⟨b, off + j, none⟩) (by show b < w.heap.size; omega) hbB).trans hz, hr⟩⟩
/-- A box of the call's own is written whole. -/
theorem belowRow_ {w W : World} (h : Below w.heap.size w W) {B : Nat} (hB : w.heap.size ≤ B) (cs : Array Value) : Below w.heap.size w (W.setRow B cs) :=
  h.trans ((keepsRow_ W B cs).below (B := w.heap.size) h.size (by rintro b hb rfl; omega))
theorem Blk.row {W : World} {g B : Nat} {cs : Array Value} (h : Blk W g cs) (hne : ¬ g = B) (cs' : Array Value) : Blk (W.setRow B cs') g cs := h.keeps (keepsRow_ W B cs') hne
theorem Keeps.grown {S : Nat → Prop} {w w1 w2 : World} (h : Keeps S w w1) {row : Option Nat} (hg : w1.grownBy w2 row) (hr : ∀ r, row = some r → w.heap.size ≤ r) : Keeps S w w2 :=
  ⟨hg.os.trans h.os, hg.tape.trans h.tape, hg.output.trans h.output, Nat.le_trans h.size hg.size, fun b hb hn => (hg.block b (Nat.lt_of_lt_of_le hb h.size) (fun e => by have := hr b e.symm; omega)).trans (h.block b hb hn)⟩
theorem Cur.grown {T : TypeId} {k : IntKind} {w w' : World} {g : Nat} (h : Cur T k w g) {row : Option Nat} (hg : w.grownBy w' row) (hr : ∀ r, row = some r → g < r) : Cur T k w' g :=
  h.keeps (S := fun b => row = some b) ⟨hg.os, hg.tape, hg.output, hg.size, fun b hb hn => hg.block b hb (fun e => hn e.symm)⟩ (fun b hb e => by have := hr b e; omega)
theorem OR.keep {S : Nat → Prop} {w w' : World} {B : Nat} {v : Value} {l : List RecD} (h : OR w B v l) (hk : Keeps S w w') (hS : ∀ r, B ≤ r → ¬ S r) : OR w' B v l := by
  obtain ⟨hl, ho⟩ := h
  refine ⟨hl, ho.imp id ?_⟩
  rintro ⟨g, cap, cur, hv, hb', hh, rest⟩
  exact ⟨g, cap, cur, hv, hb', (hk.block g (Array.getElem?_eq_some_iff.1 hh).1 (hS g hb')).trans hh, rest⟩
end Go.Proofs.YtgaafcapjokecaaGreat
/- Dk -/
set_option linter.unusedVariables false
namespace Go.Proofs.YtgaafcapjokecaaGreat
open Go.RowKit

set_option maxRecDepth 100000 in
set_option maxHeartbeats 1000000 in
theorem likeRecs_same (v v' : Value) (l : List RecD) (w : World) (h : Rt w w.heap.size v l) (h' : Rt w w.heap.size v' l) :
    Calls Tryz.prog 8 #[v, v'] w fun e w' => e = .returned (.bool true) ∧ Below w.heap.size w w' := by
  have H := Lib.hid h
  have H' := Lib.hid h'
  obtain ⟨⟨A, c, rfl, -⟩, hl⟩ := h
  obtain ⟨⟨A', c', rfl, -⟩, -⟩ := h'
  have hl' : l.length ≤ 2 ^ 63 - 1 := by unfold maxLen at hl; omega
  clear hl
  generalize hq : l.length = n at *
  have HQ := Lib.hid hq
  clear hq
  go_enter Tryz.func8, Tryz.ntmps8
  go_wp2
  go_loopw [5] (fun i wr => ∃ k : Nat, k ≤ n ∧ i = .int .i64 k ∧ Below w.heap.size w wr) (fun i _ => n - (intOf i).toNat)
  case atStart => exact ⟨0, Nat.zero_le _, rfl, Below.refl _ _⟩
  case round =>
    obtain ⟨k, hk, rfl, K⟩ := hrel
    by_cases hlt : k < n
    · obtain ⟨b, off, rfl, hb, q0, q1, q2⟩ := (H.out.below K (Nat.le_refl _)).cell (i := k) (by rw [HQ.out]; exact hlt)
      obtain ⟨b', off', rfl, hb', r0, r1, r2⟩ := (H'.out.below K (Nat.le_refl _)).cell (i := k) (by rw [HQ.out]; exact hlt)
      generalize recAt l k = r at *
      obtain ⟨rk, ra, rb⟩ := r
      dsimp only at q0 q1 q2 r0 r1 r2
      go_wp2_with fail
      go_quiet (fail)
      go_wp2
      exact ⟨⟨k + 1, by omega, by go_num, below_drewN K _⟩, by simp [intOf]; omega⟩
    · obtain rfl : k = n := by omega
      go_wp2
      go_ret
      exact ⟨rfl, K⟩
end Go.Proofs.YtgaafcapjokecaaGreat
/- Xb -/
set_option linter.unusedVariables false
namespace Go.Proofs.YtgaafcapjokecaaGreat
open Go.RowKit Go.Shelf

end Go.Proofs.YtgaafcapjokecaaGreat
