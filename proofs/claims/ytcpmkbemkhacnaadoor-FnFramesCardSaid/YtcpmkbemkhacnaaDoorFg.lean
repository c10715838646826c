/-
  The program's iterator over the frames: its contract.
-/
import Derived.RangeFuncBox
import Derived.RangeFuncBound
import Derived.RangeFuncLeaves
import Derived.Shelf.Abstract
import Derived.WalkKit
import Derived.OwnWalkIn
import Derived.TacticsInMore
import Derived.LoopNIn
import Derived.LoopIn
import Derived.Maps.AppendAt
import Derived.Test.YtcpmkbemkhacnaaDoorFf
set_option linter.unusedVariables false
namespace Go.Proofs.YtcpmkbemkhacnaaDoor
open Go.RowKit Go.Shelf

attribute [local go_sem] Oper.semAt_some

/-- One round, as the iterator asks for it: J at what has come and where it ends, the world as it was when the frame was looked for. -/
def RoundAt (L : List Nat) (l n : Nat) (J : List (List RecD) → Nat → World → Prop) : Prop :=
  ∀ (done : List (List RecD)) (p : Nat) (l' : List RecD) (k : Nat) (v : Value) (W0 W1 : World), J done p W0 → SoFar L p done → getFrame (L.drop p) = some (l', k) → Below W0.heap.size W0 W1 → OR W1 W0.heap.size v l' →
    YieldAt Fence.wide n Tryd.prog l #[v, .int .i64 ((p : Int) + (k : Int))] W1 fun e W' => e = .returned (.bool true) ∧ J (done ++ [l']) (p + k) W'

set_option maxRecDepth 100000 in
set_option maxHeartbeats 2000000 in
theorem whole1_in (n l Bn c : Nat) (hnn : 1 ≤ n) (A : Option Addr) (L : List Nat) (J : List (List RecD) → Nat → World → Prop)
    (hJ : ∀ done p W, J done p W → W.cell? ⟨Bn, 0, none⟩ = some (.slice A L.length c) ∧ Bt W W.heap.size (.slice A L.length c) L ∧ Names W)
    (hY : RoundAt L l (n - 1) J) (W : World) (h0 : J [] 0 W) :
    CallsIn Fence.wide n Tryd.prog 51 #[.func (.yield l) #[] #[], .pointer (some ⟨Bn, 0, none⟩)] W fun e W' => (∃ v, e = .returned v) ∧
      ∃ W0, J (framesN L).1 (framesN L).2 W0 ∧ Below W0.heap.size W0 W' := by
  have HJ := Lib.hid hJ
  have HY := Lib.hid hY
  have hl := (hJ _ _ _ h0).2.1.len
  have hl' : L.length ≤ 2 ^ 63 - 1 := by unfold maxLen at hl; omega
  have H0 := Lib.hid h0
  clear hJ hY h0 hl
  generalize hn : L.length = m at *
  have HN := Lib.hid hn
  clear hn
  refine callsIn_of_wp Tryd.func51 rfl trivial ?_ rfl
  simp only [Tryd.ntmps51, List.size_toArray, List.length_cons, List.length_nil, Nat.reduceAdd, Nat.reduceSub, Array.replicate_succ, Array.replicate_zero, List.push_toArray, List.append_toArray, List.nil_append, List.cons_append]
  gi_wp2
  gi_loopw [3] (fun s3 wr => ∃ (p : Nat) (done : List (List RecD)), s3 = .int .i64 p ∧ p ≤ m ∧ SoFar L p done ∧ J done p wr) (fun s3 _ => m - (intOf s3).toNat)
  case atStart => exact ⟨0, [], rfl, Nat.zero_le _, SoFar.start L, H0.out⟩
  case round =>
    obtain ⟨p, done, rfl, hp, hsf, hj⟩ := hrel
    obtain ⟨hc, hbt, hnm⟩ := HJ.out _ _ _ hj
    have hd := hbt.drop (k := p) (by rw [HN.out]; exact hp)
    cases hg : getFrame (L.drop p) with
    | none =>
      have hend := hsf.stop hg
      by_cases hcp : c = p
      · rw [if_pos hcp] at hd
        subst hcp
        rw [Nat.sub_self] at hd
        gi_wp2_with (refine ⟨trivial, ?_⟩; gi_at_call 52; refine (callsIn_wide.2 (firstFrame_any _ _ wr hnm hd)).mono ?_; rintro e w1 ⟨v1, k1, rfl, hb1, hq⟩; rw [hg])
        refine bodyPost_ret (results_none rfl _ _ _) rfl ?_
        exact ⟨⟨_, rfl⟩, wr, by rw [hend.1, hend.2]; exact hj, hb1⟩
      · rw [if_neg hcp] at hd
        gi_wp2_with (refine ⟨trivial, ?_⟩; gi_at_call 52; refine (callsIn_wide.2 (firstFrame_any _ _ wr hnm hd)).mono ?_; rintro e w1 ⟨v1, k1, rfl, hb1, hq⟩; rw [hg])
        refine bodyPost_ret (results_none rfl _ _ _) rfl ?_
        exact ⟨⟨_, rfl⟩, wr, by rw [hend.1, hend.2]; exact hj, hb1⟩
    | some q =>
      obtain ⟨l', k⟩ := q
      have hlen := getFrame_len hg
      rw [List.length_drop, HN.out] at hlen
      have hstep := hsf.step hg
      by_cases hcp : c = p
      · rw [if_pos hcp] at hd
        subst hcp
        rw [Nat.sub_self] at hd
        gi_wp2_with (first
          | (refine ⟨trivial, ?_⟩; gi_at_call 52; refine (callsIn_wide.2 (firstFrame_any _ _ wr hnm hd)).mono ?_; rintro e w1 ⟨v1, k1, rfl, hb1, hq⟩; obtain ⟨rfl, hor⟩ := hq l' k hg; rw [hg]; obtain ⟨fn, tmps, assign, body, hy, hR⟩ := HY.out done _ l' k v1 wr w1 hj hsf hg hb1 hor))
        refine hR.mono ?_
        rintro e W3 ⟨rfl, hJ3⟩
        gi_wp2
        go_roundw
        case rel => exact ⟨_, _, int_eq (by omega), by omega, hstep, hJ3⟩
        case measure => simp [intOf]; omega
      · rw [if_neg hcp] at hd
        gi_wp2_with (first
          | (refine ⟨trivial, ?_⟩; gi_at_call 52; refine (callsIn_wide.2 (firstFrame_any _ _ wr hnm hd)).mono ?_; rintro e w1 ⟨v1, k1, rfl, hb1, hq⟩; obtain ⟨rfl, hor⟩ := hq l' k hg; rw [hg]; obtain ⟨fn, tmps, assign, body, hy, hR⟩ := HY.out done _ l' k v1 wr w1 hj hsf hg hb1 hor))
        refine hR.mono ?_
        rintro e W3 ⟨rfl, hJ3⟩
        gi_wp2
        go_roundw
        case rel => exact ⟨_, _, int_eq (by omega), by omega, hstep, hJ3⟩
        case measure => simp [intOf]; omega
end Go.Proofs.YtcpmkbemkhacnaaDoor
