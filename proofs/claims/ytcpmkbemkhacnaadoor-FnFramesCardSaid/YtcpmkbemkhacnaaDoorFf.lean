/-
  The frame at the beginning: the program's firstFrame.
-/
import Derived.Test.YtcpmkbemkhacnaaDoorEc
import Derived.Test.YtcpmkbemkhacnaaDoorFb
import Derived.Test.YtcpmkbemkhacnaaDoorBg
import Derived.StillTailTactics
set_option linter.unusedVariables false
namespace Go.Proofs.YtcpmkbemkhacnaaDoor
open Go.RowKit

/-- What firstFrame answers of the bytes L. -/
def First (L : List Nat) (w : World) (e : Ending) (w' : World) : Prop :=
  ∃ (v : Value) (k : Int), e = .returned (.tuple #[v, .int .i64 k, .bool (getFrame L).isSome]) ∧ Below w.heap.size w w' ∧ ∀ l z, getFrame L = some (l, z) → k = (z : Nat) ∧ OR w' w.heap.size v l
theorem First.no {L : List Nat} {w w' : World} {e : Ending} {v : Value} {k : Int} (h : getFrame L = none) (he : e = .returned (.tuple #[v, .int .i64 k, .bool false])) (hb : Below w.heap.size w w') : First L w e w' :=
  ⟨v, k, by rw [he, h]; rfl, hb, fun l z hh => by rw [h] at hh; cases hh⟩
set_option maxRecDepth 100000 in
set_option maxHeartbeats 4000000 in
theorem firstFrame_any (v : Value) (L : List Nat) (w : World) (hN : Names w) (h : Bt w w.heap.size v L) :
    Calls Tryd.prog 52 #[v] w (First L w) := by
  have HNM := Lib.hid hN
  have H := Lib.hid h
  obtain ⟨⟨A, c, rfl, hcap, -⟩, hl, hs⟩ := h
  have HS := Lib.hid hs
  have hl' : L.length ≤ 2 ^ 63 - 1 := by unfold maxLen at hl; omega
  clear hs hl hN
  generalize hn : L.length = n at *
  have HN := Lib.hid hn
  clear hn
  go_enter Tryd.func52, Tryd.ntmps52
  by_cases h4 : n < 4
  · have HG := Lib.hid (getFrame_short (L := L) (by rw [HN.out]; exact h4))
    go_wp2_with fail
    go_ret3
    exact First.no HG.out rfl (Below.refl _ _)
  · obtain ⟨b, off, rfl, hb, q0⟩ := H.out.cell (k := 0) (by rw [HN.out]; omega)
    obtain ⟨b', off', e, hb', q1⟩ := H.out.cell (k := 1) (by rw [HN.out]; omega)
    injection e with e
    injection e with e1 e2
    subst e1 e2
    rw [Nat.add_zero] at q0
    have z0 := HS.out.getD 0
    have z1 := HS.out.getD 1
    have hat := Lib.hid (show at2 L 0 = L.getD 0 0 + 256 * L.getD 1 0 from rfl)
    generalize hm : at2 L 0 = m at *
    have HM := Lib.hid hm
    generalize L.getD 0 0 = x at *
    generalize L.getD 1 0 = y at *
    go_wp2_with fail
    go_quiet ((go_at_call 63; exact Calls.quiet_of_same ((twoBytes_any _ _ _ z0 z1).mono fun e w' h => ⟨h.1, h.2.symm⟩)))
    have hlt : m < 65536 := by have := hat.out; omega
    rw [show (4 : Int) + ((x : Int) + 256 * (y : Int)) = ((4 + m : Nat) : Int) by have := hat.out; omega]
    have X := below_drewN (Below.refl w.heap.size w) nq
    generalize w.drewN nq = w1 at *
    have HX := Lib.hid X
    clear X q0 q1 hat z0 z1 hm
    by_cases h5 : n < 4 + m
    · have HG := Lib.hid (getFrame_cut (L := L) (by rw [HN.out, HM.out]; exact h5))
      go_wp2_with fail
      go_ret3
      exact First.no HG.out rfl HX.out
    · have HG1 : Hid (sumN ((L.drop 4).take m) ≠ at2 L 2 → getFrame L = none) := Lib.hid fun h => getFrame_sum (by rw [HM.out]; exact h)
      have HG2 : Hid (readN ((L.drop 4).take m) = none → getFrame L = none) := Lib.hid fun h => getFrame_bad (by rw [HM.out]; exact h)
      have HG3 : Hid (∀ l, sumN ((L.drop 4).take m) = at2 L 2 → readN ((L.drop 4).take m) = some l → getFrame L = some (l, 4 + m)) := Lib.hid fun l h1 h2 => by
        have := getFrame_good (L := L) (l := l) (by rw [HM.out, HN.out]; omega) (by rw [HM.out]; exact h1) (by rw [HM.out]; exact h2)
        rwa [HM.out] at this
      have HB : Hid (∀ Q, (¬ c = 4 → Q = some ⟨b, off + 4, none⟩) → Bt w w.heap.size (.slice Q m (c - 4)) ((L.drop 4).take m)) := Lib.hid fun Q hQ => by
        by_cases hc : c = 4
        · obtain rfl : m = 0 := by omega
          rw [List.take_zero]
          exact Bt.nil _ _ _ _
        · rw [hQ hc]
          exact (H.out.drop_at (k := 4) (A := some ⟨b, off + 4, none⟩) (by omega) (fun _ => rfl)).take (k := m) (c' := c - 4) (by rw [List.length_drop, HN.out]; omega) (by omega)
      obtain ⟨b', off', e, hb', q2⟩ := (H.out.below HX.out (Nat.le_refl _)).cell (k := 2) (by rw [HN.out]; omega)
      injection e with e
      injection e with e1 e2
      subst e1 e2
      obtain ⟨b', off', e, hb', q3⟩ := (H.out.below HX.out (Nat.le_refl _)).cell (k := 3) (by rw [HN.out]; omega)
      injection e with e
      injection e with e1 e2
      subst e1 e2
      have z2 := HS.out.getD 2
      have z3 := HS.out.getD 3
      have hat := Lib.hid (show at2 L 2 = L.getD 2 0 + 256 * L.getD 3 0 from rfl)
      generalize at2 L 2 = t at *
      generalize L.getD 2 0 = x2 at *
      generalize L.getD 3 0 = y2 at *
      generalize (L.drop 4).take m = M at *
      by_cases hc : c = 4
      · subst hc
        have HBT := Lib.hid (((HB.out (some ⟨b, off, none⟩) (fun h => absurd rfl h)).below HX.out (Nat.le_refl _)).more HX.out.size)
        rw [Nat.sub_self] at HBT
        clear HB
        go_wp2_with fail
        go_quiet (first
          | (go_at_call 19; exact Calls.quiet_of_same ((sumOf_any _ M _ (HBT.out.go (below_drewN (Below.refl _ _) _))).mono fun e w' h => ⟨h.1, h.2.symm⟩))
          | (go_at_call 63; exact Calls.quiet_of_same ((twoBytes_any _ _ _ z2 z3).mono fun e w' h => ⟨h.1, h.2.symm⟩)))
        have X2 := HX.out.trans ((below_drewN (Below.refl w1.heap.size w1) nq).mono HX.out.size)
        have HBT2 := Lib.hid (HBT.out.go (below_drewN (Below.refl w1.heap.size w1) nq))
        generalize w1.drewN nq = w2 at *
        have HX2 := Lib.hid X2
        clear X2 q2 q3 HBT
        by_cases hs : sumN M = t
        · rw [show ((sumN M : Int) != (x2 : Int) + 256 * (y2 : Int)) = false by have := hat.out; simp; omega]
          go_wp2_with fail
          refine (readRecs_any _ M w2 (HNM.out.go HX2.out) HBT2.out).mono ?_
          rintro e w3 ⟨v3, rfl, O3, hb3⟩
          have HO3 := Lib.hid O3
          have HX3 := Lib.hid (HX2.out.trans (hb3.mono HX2.out.size))
          clear O3 hb3
          go_wp2_with fail
          cases hr : readN M with
          | none =>
            go_ret3
            exact First.no (HG2.out hr) rfl HX3.out
          | some l =>
            have hg := HG3.out l hs hr
            go_ret3
            refine ⟨_, _, ret_three rfl rfl ?_, HX3.out, fun l' z h => ?_⟩
            · rw [hg]; rfl
            · rw [hg] at h
              cases h
              exact ⟨by omega, by have := HO3.out.base HX2.out.size; rw [hr] at this; exact this⟩
        · have HG := Lib.hid (HG1.out hs)
          rw [show ((sumN M : Int) != (x2 : Int) + 256 * (y2 : Int)) = true by have := hat.out; simp; omega]
          go_wp2_with fail
          go_ret3
          exact First.no HG.out rfl HX2.out
      · have HBT := Lib.hid (((HB.out _ (fun _ => rfl)).below HX.out (Nat.le_refl _)).more HX.out.size)
        clear HB
        go_wp2_with fail
        go_quiet (first
          | (go_at_call 19; exact Calls.quiet_of_same ((sumOf_any _ M _ (HBT.out.go (below_drewN (Below.refl _ _) _))).mono fun e w' h => ⟨h.1, h.2.symm⟩))
          | (go_at_call 63; exact Calls.quiet_of_same ((twoBytes_any _ _ _ z2 z3).mono fun e w' h => ⟨h.1, h.2.symm⟩)))
        have X2 := HX.out.trans ((below_drewN (Below.refl w1.heap.size w1) nq).mono HX.out.size)
        have HBT2 := Lib.hid (HBT.out.go (below_drewN (Below.refl w1.heap.size w1) nq))
        generalize w1.drewN nq = w2 at *
        have HX2 := Lib.hid X2
        clear X2 q2 q3 HBT
        by_cases hs : sumN M = t
        · rw [show ((sumN M : Int) != (x2 : Int) + 256 * (y2 : Int)) = false by have := hat.out; simp; omega]
          go_wp2_with fail
          refine (readRecs_any _ M w2 (HNM.out.go HX2.out) HBT2.out).mono ?_
          rintro e w3 ⟨v3, rfl, O3, hb3⟩
          have HO3 := Lib.hid O3
          have HX3 := Lib.hid (HX2.out.trans (hb3.mono HX2.out.size))
          clear O3 hb3
          go_wp2_with fail
          cases hr : readN M with
          | none =>
            go_ret3
            exact First.no (HG2.out hr) rfl HX3.out
          | some l =>
            have hg := HG3.out l hs hr
            go_ret3
            refine ⟨_, _, ret_three rfl rfl ?_, HX3.out, fun l' z h => ?_⟩
            · rw [hg]; rfl
            · rw [hg] at h
              cases h
              exact ⟨by omega, by have := HO3.out.base HX2.out.size; rw [hr] at this; exact this⟩
        · have HG := Lib.hid (HG1.out hs)
          rw [show ((sumN M : Int) != (x2 : Int) + 256 * (y2 : Int)) = true by have := hat.out; simp; omega]
          go_wp2_with fail
          go_ret3
          exact First.no HG.out rfl HX2.out
end Go.Proofs.YtcpmkbemkhacnaaDoor
