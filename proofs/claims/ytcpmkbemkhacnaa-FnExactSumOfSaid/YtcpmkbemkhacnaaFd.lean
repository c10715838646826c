/-
  The walk of the law of SumOf.
-/
import Derived.Test.YtcpmkbemkhacnaaBh
import Derived.Test.YtcpmkbemkhacnaaFa
set_option linter.unusedVariables false
namespace Go.Proofs.Ytcpmkbemkhacnaa
open Go.RowKit

set_option maxRecDepth 100000 in
set_option maxHeartbeats 2000000 in
theorem lawSumOf (v : Value) (L : List Nat) (w : World) (h : Bt w w.heap.size v L) :
    Calls Try.prog 3 #[v] w fun e w' => e = .returned (.bool true) ∧ Below w.heap.size w w' := by
  have S := Lib.hid h
  obtain ⟨⟨A, c, rfl, -, -⟩, hm, -⟩ := h
  have hm' : L.length ≤ 2 ^ 63 - 1 := by unfold maxLen at hm; omega
  clear hm
  generalize hq : L.length = n at *
  have HQ := Lib.hid hq
  clear hq
  by_cases hsz : n ≤ 1048576
  · have hsz' : (n : Int) ≤ 1048576 := by omega
    have HLL : Hid (L.length ≤ 1048576) := Lib.hid (by rw [HQ.out]; exact hsz)
    go_enter Try.func3, Try.ntmps3
    go_wp2_with fail
    refine (toByteS_any _ L w S.out HLL.out).mono ?_
    rintro e w1 ⟨g0, rfl, -, -, -, R1, K1⟩
    go_wp2_with fail
    refine (specSumOf_any _ L w1 R1).mono ?_
    rintro e w2 ⟨rfl, rfl⟩
    generalize hs : sumN L = s at *
    have HS := Lib.hid hs
    clear hs R1
    go_wp2_with fail
    refine (toByteS_any _ L w1 ((S.out.below K1 (Nat.le_refl _)).more K1.size) HLL.out).mono ?_
    rintro e w3 ⟨g1, rfl, -, -, -, R1, K3⟩
    have K := K1.trans (K3.mono K1.size)
    clear K1 K3
    go_wp2_with fail
    refine (sumOf_any _ L w3 R1).mono ?_
    rintro e w4 ⟨rfl, rfl⟩
    rw [HS.out]
    go_wp2_with fail
    refine (toByteS_any _ L w3 ((S.out.below K (Nat.le_refl _)).more K.size) HLL.out).mono ?_
    rintro e w6 ⟨g2, rfl, -, -, -, R2, hb⟩
    replace K := K.trans (hb.mono K.size)
    replace R1 := R1.go hb
    clear hb
    go_wp2_with fail
    refine (eqByteS_same _ _ L w6 R1 R2).mono ?_
    rintro e w7 ⟨rfl, hb⟩
    replace K := K.trans (hb.mono K.size)
    clear hb R1 R2
    go_wp2_with fail
    go_ret
    exact ⟨rfl, K⟩
  · have hsz' : (1048576 : Int) < n := by omega
    go_enter Try.func3, Try.ntmps3
    go_wp2_with fail
    go_ret
    exact ⟨rfl, Below.refl _ _⟩
end Go.Proofs.Ytcpmkbemkhacnaa
