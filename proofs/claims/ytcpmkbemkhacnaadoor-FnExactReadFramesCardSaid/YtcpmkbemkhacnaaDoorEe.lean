/-
  The laws' small functions on lists of lists: comparisons, marks.
-/
import Derived.Test.YtcpmkbemkhacnaaDoorBh
import Derived.Test.YtcpmkbemkhacnaaDoorEb
set_option linter.unusedVariables false
namespace Go.Proofs.YtcpmkbemkhacnaaDoor
open Go.RowKit

set_option maxRecDepth 100000 in
set_option maxHeartbeats 1000000 in
theorem eqRecSS_same (v v' : Value) (ls : List (List RecD)) (w : World) (h : St w w.heap.size v ls) (h' : St w w.heap.size v' ls) :
    Calls Tryd.prog 30 #[v, v'] w fun e w' => e = .returned (.bool true) ∧ Below w.heap.size w w' := by
  have H := Lib.hid h
  have H' := Lib.hid h'
  obtain ⟨⟨A, c, rfl, -⟩, hl⟩ := h
  obtain ⟨⟨A', c', rfl, -⟩, -⟩ := h'
  have hl' : ls.length ≤ 2 ^ 63 - 1 := by unfold maxLen at hl; omega
  clear hl
  generalize hq : ls.length = n at *
  have HQ := Lib.hid hq
  clear hq
  go_enter Tryd.func30, Tryd.ntmps30
  go_wp2
  go_loopw [5] (fun i wr => ∃ k : Nat, k ≤ n ∧ i = .int .i64 k ∧ Below w.heap.size w wr) (fun i _ => n - (intOf i).toNat)
  case atStart => exact ⟨0, Nat.zero_le _, rfl, Below.refl _ _⟩
  case round =>
    obtain ⟨k, hk, rfl, K⟩ := hrel
    by_cases hlt : k < n
    · obtain ⟨b, off, u, rfl, hb, q0, hr⟩ := ((H.out.below K (Nat.le_refl _)).more K.size).cell (i := k) (by rw [HQ.out]; exact hlt)
      obtain ⟨b', off', u', rfl, hb', r0, hr'⟩ := ((H'.out.below K (Nat.le_refl _)).more K.size).cell (i := k) (by rw [HQ.out]; exact hlt)
      have HR := Lib.hid hr
      have HR' := Lib.hid hr'
      have HBB := Lib.hid hb
      have HBB' := Lib.hid hb'
      obtain ⟨⟨a, ca, rfl, -⟩, -⟩ := hr
      obtain ⟨⟨a', ca', rfl, -⟩, -⟩ := hr'
      generalize listAt ls k = l at *
      clear hb hb'
      have S0 : wr.cell? ⟨b, off + k, none⟩ = some (.slice a l.length ca) ∧ wr.cell? ⟨b', off' + k, none⟩ = some (.slice a' l.length ca') ∧ Below w.heap.size w wr := ⟨q0, r0, K⟩
      clear q0 r0
      go_wp2_with fail
      go_region_held3 (fun w' => w'.cell? ⟨b, off + k, none⟩ = some (.slice a l.length ca) ∧ w'.cell? ⟨b', off' + k, none⟩ = some (.slice a' l.length ca') ∧ Below w.heap.size w w')
        (first | exact S0 | exact S1 | exact ⟨S0.1, S0.2.1, S0.2.2.drew⟩)
        (first
          | (go_at_call 25
             refine (eqRecS_same _ _ l _ (HR.out.go (Below.refl _ _).drew) (HR'.out.go (Below.refl _ _).drew)).mono ?_
             rintro e w2 ⟨rfl, hb2⟩
             have S1 : w2.cell? ⟨b, off + k, none⟩ = some (.slice a l.length ca) ∧ w2.cell? ⟨b', off' + k, none⟩ = some (.slice a' l.length ca') ∧ Below w.heap.size w w2 :=
               ⟨(hb2.cell (p := ⟨b, off + k, none⟩) HBB.out).trans S0.1, (hb2.cell (p := ⟨b', off' + k, none⟩) HBB'.out).trans S0.2.1, K.drew.trans (hb2.mono K.size)⟩))
      have K2 := S1.2.2
      clear S0 S1
      go_wp2
      exact ⟨⟨k + 1, by omega, by go_num, K2⟩, by simp [intOf]; omega⟩
    · obtain rfl : k = n := by omega
      go_wp2
      go_ret
      exact ⟨rfl, K⟩
end Go.Proofs.YtcpmkbemkhacnaaDoor
