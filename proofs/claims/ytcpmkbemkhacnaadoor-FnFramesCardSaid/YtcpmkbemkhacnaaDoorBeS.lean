/-
  RecBytes of the model.
-/
import Derived.Test.YtcpmkbemkhacnaaDoorBe
import Derived.Deep.RegionHeld3
set_option linter.unusedVariables false
namespace Go.Proofs.YtcpmkbemkhacnaaDoor
open Go.RowKit

theorem allOk_take {l : List RecD} {k : Nat} (h : allOk (l.take k) = true) (hk : k < l.length) : allOk (l.take (k + 1)) = recOkB (recAt l k) := by
  unfold allOk at *
  rw [List.take_succ_eq_append_getElem hk, List.all_append, h]
  simp [recAt, List.getD, hk]
theorem allOk_cut {l : List RecD} {k : Nat} (h : allOk l = true) : allOk (l.take k) = true := by
  unfold allOk at *
  rw [List.all_eq_true] at *
  exact fun x hx => h x (List.mem_of_mem_take hx)

set_option maxRecDepth 100000 in
set_option maxHeartbeats 4000000 in
theorem specRecBytes_any (v : Value) (l : List RecD) (w : World) (h : Rt w w.heap.size v l) :
    Calls Tryd.prog 44 #[v] w (Wrote l w) := by
  have H := Lib.hid h
  obtain ⟨⟨A, c, rfl, -⟩, hl⟩ := h
  have hl' : l.length ≤ 2 ^ 63 - 1 := by unfold maxLen at hl; omega
  clear hl
  generalize hq : l.length = q at *
  have HQ := Lib.hid hq
  clear hq
  by_cases h80 : q ≤ 80
  · go_enter Tryd.func44, Tryd.ntmps44
    go_wp2_with fail
    have O1 : OB (w.alloc (.cells #[] 5)) w.heap.size (.slice (some ⟨w.heap.size, 0, none⟩) 0 0) [] := OB.empty (Nat.le_refl _)
    refine (put_any _ [] q w.heap.size _ O1 (by simp) (by omega) (by simp)).mono ?_
    rintro e w2 ⟨v2, rfl, O2, K2⟩
    have O2 : OB w2 w.heap.size v2 (putN q) := by simpa using O2
    have K2 := ((Below.refl w.heap.size w).alloc (Nat.le_refl _) (.cells #[] 5)).trans K2
    clear O1
    go_wp2_with fail
    go_loopw [4, 5] (fun s4 s5 wr => ∃ k : Nat, k ≤ q ∧ s5 = .int .i64 k ∧ allOk (l.take k) = true ∧ OB wr w.heap.size s4 (putN q ++ recsN (l.take k)) ∧ Below w.heap.size w wr) (fun _ s5 _ => q - (intOf s5).toNat)
    case atStart => exact ⟨0, Nat.zero_le _, rfl, rfl, by simpa [recsN] using O2, K2⟩
    case round =>
      clear O2 K2
      obtain ⟨k, hk, rfl, hall, O, K⟩ := hrel
      have HA := Lib.hid hall
      clear hall
      by_cases hlt : k < q
      · obtain ⟨b, off, rfl, hb, q0, q1, q2⟩ := (H.out.below K (Nat.le_refl _)).cell (i := k) (by rw [HQ.out]; exact hlt)
        have HT := Lib.hid (recsN_take (l := l) (k := k) (by rw [HQ.out]; exact hlt))
        have HR := Lib.hid (allOk_take HA.out (by rw [HQ.out]; exact hlt))
        have hlen : (putN q ++ recsN (l.take k)).length ≤ 1000 := by
          have h1 := putN_len3 (n := q) (by omega)
          have h2 := recsN_len HA.out
          rw [List.length_take] at h2
          rw [List.length_append]
          omega
        have HLEN := Lib.hid hlen
        generalize hrr : recAt l k = r at *
        have HRR := Lib.hid hrr
        have HO := Lib.hid O
        have HK := Lib.hid K
        clear O K hlen hrr
        cases hok : recOkB r
        · have HOK := Lib.hid hok
          clear hok
          go_wp2_with fail
          refine (specRecOk_any r _).mono ?_
          rintro e w3 ⟨rfl, hb3⟩
          rw [HOK.out]
          go_wp2_with fail
          go_ret2
          have hW : writeB l = false := by
            cases hw : writeB l
            · rfl
            · have := allOk_get (writeB_true hw).2 (k := k) (by rw [HQ.out]; exact hlt)
              rw [HRR.out, HOK.out] at this
              cases this
          refine ⟨_, ret_two rfl (bool_eq hW.symm), ?_, (HK.out.trans (hb3.mono HK.out.size)).alloc (Nat.le_trans HK.out.size hb3.size) _⟩
          rw [wroteN_no hW]
          exact OB.empty (Nat.le_trans HK.out.size hb3.size)
        · have HOK := Lib.hid hok
          obtain ⟨rk, ra, rb⟩ := r
          have hr := recOkB_true.1 hok
          dsimp only at hr q0 q1 q2
          obtain ⟨nk, rfl⟩ := Int.eq_ofNat_of_zero_le (show 0 ≤ rk by omega)
          obtain ⟨na, rfl⟩ := Int.eq_ofNat_of_zero_le (show 0 ≤ ra by omega)
          obtain ⟨nb, rfl⟩ := Int.eq_ofNat_of_zero_le (show 0 ≤ rb by omega)
          clear hok
          go_wp2_with fail
          refine (specRecOk_any ⟨nk, na, nb⟩ _).mono ?_
          rintro e w3 ⟨rfl, hb3⟩
          rw [HOK.out]
          have q0 := (hb3.cell (p := ⟨b, off + k * 3, none⟩) (by have := HK.out.size; show b < _; omega)).trans q0
          have q1 := (hb3.cell (p := ⟨b, off + k * 3 + 1, none⟩) (by have := HK.out.size; show b < _; omega)).trans q1
          have q2 := (hb3.cell (p := ⟨b, off + k * 3 + 2, none⟩) (by have := HK.out.size; show b < _; omega)).trans q2
          have HO := Lib.hid (HO.out.below hb3)
          have HK := Lib.hid (HK.out.trans (hb3.mono HK.out.size))
          go_wp2_with fail
          have S3 : w3.cell? ⟨b, off + k * 3, none⟩ = some (.int .i64 nk) ∧ w3.cell? ⟨b, off + k * 3 + 1, none⟩ = some (.int .i64 na) ∧ w3.cell? ⟨b, off + k * 3 + 2, none⟩ = some (.int .i64 nb) := ⟨q0, q1, q2⟩
          have c0 : Hid (∀ w4 : World, Below w.heap.size w3 w4 → w4.cell? ⟨b, off + k * 3, none⟩ = some (.int .i64 nk) ∧ w4.cell? ⟨b, off + k * 3 + 1, none⟩ = some (.int .i64 na) ∧ w4.cell? ⟨b, off + k * 3 + 2, none⟩ = some (.int .i64 nb)) := Lib.hid fun w4 h4 =>
            ⟨(h4.cell (p := ⟨b, off + k * 3, none⟩) hb).trans q0, (h4.cell (p := ⟨b, off + k * 3 + 1, none⟩) hb).trans q1, (h4.cell (p := ⟨b, off + k * 3 + 2, none⟩) hb).trans q2⟩
          have hsz := HK.out.size
          have hnk : nk < 2097152 := by omega
          have hna : na < 2097152 := by omega
          have hnb : nb < 2097152 := by omega
          have hl1 := HLEN.out
          have hl2 : ((putN q ++ recsN (l.take k)) ++ putN nk).length ≤ 2000 := by rw [List.length_append]; have := putN_len3 hnk; omega
          have hl3 : (((putN q ++ recsN (l.take k)) ++ putN nk) ++ putN na).length ≤ 3000 := by rw [List.length_append]; have := putN_len3 hna; omega
          have HL1 := Lib.hid hl1
          have HL2 := Lib.hid hl2
          have HL3 := Lib.hid hl3
          clear hl1 hl2 hl3 q0 q1 q2
          go_region_held3 (fun w' => w'.cell? ⟨b, off + k * 3, none⟩ = some (.int .i64 nk) ∧ w'.cell? ⟨b, off + k * 3 + 1, none⟩ = some (.int .i64 na) ∧ w'.cell? ⟨b, off + k * 3 + 2, none⟩ = some (.int .i64 nb))
            (first | exact S3 | exact S4 | exact S5 | exact S6)
            (first
              | (have hq := O5
                 clear hq
                 go_at_call 59
                 refine (put_any v5 _ nb w.heap.size _ O5.out (Nat.le_trans hsz (Nat.le_trans K4.out.size K5.out.size)) hnb (Nat.le_trans HL3.out (by decide))).mono ?_
                 rintro e w6 ⟨v6, rfl, O6, K6⟩
                 have O6 := Lib.hid O6
                 have K6 := Lib.hid K6
                 have S6 := c0.out _ ((K4.out.trans K5.out).trans K6.out))
              | (have hq := O4
                 clear hq
                 go_at_call 59
                 refine (put_any v4 _ na w.heap.size _ O4.out (Nat.le_trans hsz K4.out.size) hna (Nat.le_trans HL2.out (by decide))).mono ?_
                 rintro e w5 ⟨v5, rfl, O5, K5⟩
                 have O5 := Lib.hid O5
                 have K5 := Lib.hid K5
                 have S5 := c0.out _ (K4.out.trans K5.out))
              | (go_at_call 59
                 refine (put_any _ _ nk w.heap.size _ (HO.out.below (Below.refl _ _).drew) hsz hnk (Nat.le_trans HL1.out (by decide))).mono ?_
                 rintro e w4 ⟨v4, rfl, O4, K4⟩
                 have O4 := Lib.hid O4
                 have K4 := Lib.hid ((Below.refl w.heap.size w3).drew.trans K4)
                 have S4 := c0.out _ K4.out))
          clear S3 S4 S5 S6 c0
          have HT6 := Lib.hid ((K4.out.trans K5.out).trans K6.out)
          go_wp2_with fail
          refine ⟨⟨k + 1, by omega, by go_num, by rw [HR.out]; exact HOK.out, ?_, HK.out.trans HT6.out⟩, by simp [intOf]; omega⟩
          rw [HT.out]
          have := O6.out
          simpa [recN] using this
      · obtain rfl : k = q := by omega
        go_wp2
        go_ret2
        have e1 : l.take k = l := List.take_of_length_le (by rw [HQ.out]; exact Nat.le_refl _)
        have hA := HA.out
        rw [e1] at O hA
        have hW : writeB l = true := by simp [writeB, HQ.out, h80, hA]
        refine ⟨_, ret_two rfl (bool_eq hW.symm), ?_, K⟩
        rw [wroteN_yes hW, HQ.out]
        exact O
  · have hW : Hid (writeB l = false) := Lib.hid (by simp [writeB, HQ.out, h80])
    go_enter Tryd.func44, Tryd.ntmps44
    go_wp2_with fail
    go_ret2
    refine ⟨_, ret_two rfl (bool_eq hW.out.symm), ?_, (Below.refl _ _).alloc (Nat.le_refl _) _⟩
    rw [wroteN_no hW.out]
    exact OB.empty (Nat.le_refl _)
end Go.Proofs.YtcpmkbemkhacnaaDoor
