/-
  The program's numbers of two bytes.
-/
import Derived.Test.YtdkmhaghnfhajaaGreatDoorMZ6
import Derived.Test.YtdkmhaghnfhajaaGreatDoorMZ7
/- Fa -/
set_option linter.unusedVariables false
namespace Go.Proofs.YtdkmhaghnfhajaaGreatDoor
open Go.RowKit

theorem sumN_take' {L : List Nat} {k : Nat} (hk : k < L.length) : sumN (L.take (k + 1)) = (sumN (L.take k) * 31 + L.getD k 0) % 65521 := by
  rw [sumN_take hk, Nat.mul_comm]
set_option maxHeartbeats 1000000 in
theorem sumOf_any (v : Value) (L : List Nat) (w : World) (h : Bt w w.heap.size v L) :
    Calls Tryz.prog 69 #[v] w fun e w' => e = .returned (.int .i64 (sumN L)) ∧ w = w' := by
  have H := Lib.hid h
  obtain ⟨⟨A, c, rfl, hcap, -⟩, hl, hs⟩ := h
  have HS := Lib.hid hs
  have hl' : L.length ≤ 2 ^ 63 - 1 := by unfold maxLen at hl; omega
  clear hs hl hcap
  generalize hn : L.length = n at *
  have HN := Lib.hid hn
  clear hn
  go_enter Tryz.func69, Tryz.ntmps69
  go_wp2
  go_loop [3, 8] (fun s3 s8 => ∃ k : Nat, k ≤ n ∧ s8 = .int .i64 k ∧ s3 = .int .i64 (sumN (L.take k))) (fun _ s8 => n - (intOf s8).toNat)
  case atStart => exact ⟨0, Nat.zero_le _, rfl, rfl⟩
  case round =>
    obtain ⟨k, hk, rfl, rfl⟩ := hrel
    by_cases hlt : k < n
    · obtain ⟨b, off, rfl, hb, q⟩ := H.out.cell (k := k) (by rw [HN.out]; exact hlt)
      have zlt := HS.out.getD k
      have hsum := Lib.hid (sumN_take' (L := L) (k := k) (by rw [HN.out]; exact hlt))
      have slt := sumN_lt (L.take k)
      generalize L.getD k 0 = z at *
      generalize sumN (L.take k) = s at *
      go_wp2
      refine ⟨⟨k + 1, by omega, by go_num, ?_⟩, by simp [intOf]; omega⟩
      rw [hsum.out]
      go_num
    · obtain rfl : k = n := by omega
      have e1 := Lib.hid (show L.take k = L from List.take_of_length_le (by rw [HN.out]; exact Nat.le_refl _))
      go_wp2
      go_ret
      exact ⟨by rw [e1.out]; rfl, rfl⟩
end Go.Proofs.YtdkmhaghnfhajaaGreatDoor
/- Fb -/
set_option linter.unusedVariables false
namespace Go.Proofs.YtdkmhaghnfhajaaGreatDoor
open Go.RowKit

set_option maxRecDepth 100000 in
set_option maxHeartbeats 1000000 in
theorem withTwo_any (v : Value) (L : List Nat) (n B : Nat) (w : World) (hB : B ≤ w.heap.size) (h : OB w B v L) (hn : n < 65536) (hL : L.length ≤ 1048576) :
    Calls Tryz.prog 68 #[v, .int .i64 n] w fun e w' => ∃ v', e = .returned v' ∧ OB w' B v' (L ++ twoN n) ∧ Below B w w' := by
  have H := Lib.hid h
  obtain ⟨i0, hi, hz0, hz1, hz2⟩ := info_parts info_u8
  have HI := Lib.hid hi
  have HZ0 := Lib.hid hz0
  have HZ1 := Lib.hid hz1
  have HZ2 := Lib.hid hz2
  clear h hi hz0 hz1 hz2
  go_enter Tryz.func68, Tryz.ntmps68
  have h63 : Hid (L.length + 2 ≤ maxLen) := Lib.hid (by unfold maxLen; omega)
  have hby : Hid ((L.length + 2) * 1 ≤ 140737488355328) := Lib.hid (by omega)
  go_wp2_with ((at_builtin; refine wpList_append_own _ rfl _ _ 22 rfl B 5 i0 (.int .u8 0) 1 1 Tryz.underlying22 HI.out HZ0.out HZ1.out HZ2.out rfl (by decide) _ _ _ rfl (ownsRow_below H.out.own ((Below.refl _ _).alloc (Nat.le_refl _) _)) ⟨w.heap.size, 0, none⟩ 2 2 [.int .u8 ((n : Int) % 256), .int .u8 ((n : Int) / 256)] rfl rfl (World.news_of_block (cs := #[.int .u8 ((n : Int) % 256), .int .u8 ((n : Int) / 256)]) (heap_alloc_new w _)) (by simp [Value.oneCell']) h63.out hby.out (by simp; omega) ?_; intro v' w4 hown' hgrow hnil))
  go_ret
  refine ⟨_, rfl, ⟨?_, H.out.small.append ?_⟩, ((Below.refl _ _).alloc hB _).grown hgrow (by simp; omega) fun r hr => (H.out.lt hr).1⟩
  · rw [List.length_append, List.map_append]
    exact hown'
  · intro z hz
    simp [twoN] at hz
    omega
set_option maxRecDepth 100000 in
set_option maxHeartbeats 2000000 in
theorem framed_any (v : Value) (l : List RecD) (w : World) (hN : Names w) (h : Rt w w.heap.size v l) :
    Calls Tryz.prog 20 #[v] w (FramedD l w) := by
  have HNM := Lib.hid hN
  have H := Lib.hid h
  obtain ⟨i0, hi, hz0, hz1, hz2⟩ := info_parts info_u8
  have HI := Lib.hid hi
  have HZ0 := Lib.hid hz0
  have HZ1 := Lib.hid hz1
  have HZ2 := Lib.hid hz2
  clear h hN hi hz0 hz1 hz2
  go_enter Tryz.func20, Tryz.ntmps20
  go_wp2_with fail
  refine (recBytes_any v l w HNM.out H.out).mono ?_
  rintro e w1 ⟨v1, rfl, O1, K1⟩
  have HO1 := Lib.hid O1
  have HK1 := Lib.hid K1
  have hlen := wroteN_len l
  have hbt := O1.bt
  obtain ⟨A1, c1, g1, rfl, hcap, hA1, hB1, hg1, C1⟩ := O1.open_
  have HBT := Lib.hid hbt
  have HC1 := Lib.hid C1
  clear O1 K1 hbt C1
  cases hw : writeB l
  · have HW := Lib.hid hw
    clear hw
    go_wp2_with fail
    go_ret2
    refine ⟨_, ret_two rfl (bool_eq HW.out.symm), ?_, HK1.out.alloc HK1.out.size _⟩
    rw [framedD_no HW.out]
    exact OB.empty HK1.out.size
  · have HW := Lib.hid hw
    have hpos := wroteN_pos hw
    have hg1' := hg1 hpos
    obtain rfl := hA1 hpos
    clear hw hg1 hA1
    have HF := Lib.hid (framedD_yes HW.out)
    have hsml := HO1.out.small
    generalize wroteN l = M at *
    generalize hm : M.length = m at *
    have HM := Lib.hid hm
    clear hm
    go_wp2_with fail
    have OE := OB.empty (B := w1.heap.size) (Nat.le_refl w1.heap.size)
    have XE := (Below.refl w1.heap.size w1).alloc (Nat.le_refl _) (.cells #[] 5)
    generalize hwe : w1.alloc (.cells #[] 5) = we at *
    have HWE := Lib.hid hwe
    clear hwe
    refine (withTwo_any _ [] m w1.heap.size we XE.size OE (by omega) (by simp)).mono ?_
    rintro e w2 ⟨v2, rfl, O2, K2⟩
    have HO2 := Lib.hid O2
    have HK2 := Lib.hid (XE.trans K2)
    clear O2 K2 OE XE
    go_wp2_with fail
    refine (sumOf_any _ M w2 (HBT.out.go HK2.out)).mono ?_
    rintro e w3 ⟨rfl, rfl⟩
    have hs := sumN_lt M
    generalize hsm : sumN M = s at *
    have HSM := Lib.hid hsm
    clear hsm
    go_wp2_with fail
    refine (withTwo_any _ ([] ++ twoN m) s w1.heap.size w2 HK2.out.size HO2.out (by omega) (by simp [twoN])).mono ?_
    rintro e w3 ⟨v3, rfl, O3, K3⟩
    have HO3 := Lib.hid O3
    have HK3 := Lib.hid (HK2.out.trans K3)
    have hl3 : ([] ++ twoN m ++ twoN s).length = 4 := rfl
    have HR3 := Lib.hid O3.own
    rw [hl3] at HR3
    clear O3 K3 HO2 HK2
    have HN1 : Hid (∀ j, j < M.length → w3.cell? ⟨g1, j, none⟩ = some (.int .u8 (M.getD j 0 : Nat))) := Lib.hid fun j hj =>
      (HK3.out.cell (p := ⟨g1, j, none⟩) hg1').trans (HC1.out j (by rw [HM.out] at hj; exact hj)).1
    go_wp2_with ((at_builtin; refine wpList_append_own _ rfl _ _ 22 rfl w1.heap.size 5 i0 (.int .u8 0) 1 1 Tryz.underlying22 HI.out HZ0.out HZ1.out HZ2.out rfl (by decide) v3 4 _ rfl HR3.out ⟨g1, 0, none⟩ m c1 (M.map byteV) rfl (by rw [List.length_map, HM.out, Nat.mul_one]) (news_bytes HN1.out) one_bytes (by unfold maxLen; omega) (by omega) HK3.out.size ?_; intro v5 w5 hown5 hgrow5 hnil5))
    go_ret2
    refine ⟨_, ret_two rfl (bool_eq HW.out.symm), ⟨?_, ?_⟩, ?_⟩
    · rw [HF.out, frameN_length]
      have e1 : (frameN M).map byteV = ([] ++ twoN m ++ twoN s).map byteV ++ M.map byteV := by
        unfold frameN
        rw [HM.out, HSM.out, List.map_append, List.map_append, List.map_append, List.nil_append, List.append_assoc]
      rw [e1, HM.out]
      exact ownsRow_base hown5 HK1.out.size
    · rw [HF.out]
      unfold frameN
      rw [HM.out, HSM.out]
      have := HO3.out.small.append hsml
      simpa using this
    · exact (HK1.out.trans (HK3.out.mono HK1.out.size)).grown hgrow5 (Nat.le_trans HK1.out.size HK3.out.size) (fun r hr => Nat.le_trans HK1.out.size (World.ownsRow.lt HR3.out r hr).1)
end Go.Proofs.YtdkmhaghnfhajaaGreatDoor
