/-
  Frames: the model's sums and small numbers.
-/
import Derived.Test.YtkefbmbjkijilaaGreatDoorMZ6
import Derived.Test.YtkefbmbjkijilaaGreatDoorMZ2
import Derived.OwnWalk
import Derived.Deep.RegionLaw
import Derived.StillTailTactics
import Derived.Deep.AppendLies
import Derived.BigQuiet
import Derived.Deep.QuietTactic
import Derived.Deep.RegionHeld3
import Derived.Test.YtkefbmbjkijilaaGreatDoorMZ0
import Derived.Sort.Row
import Derived.RegionTactic
import Derived.BigRegion
import Derived.Lib.SliceRun
import Derived.Test.YtkefbmbjkijilaaGreatDoorMZ1
import Derived.Lib.Hide
import Derived.Test.YtkefbmbjkijilaaGreatDoorMZ3
/- Bc -/
set_option linter.unusedVariables false
namespace Go.Proofs.YtkefbmbjkijilaaGreatDoor
open Go.RowKit

/-- What readNumber answers of the bytes L. -/
def ReadNum (B : Nat) (L : List Nat) (w : World) (e : Ending) (w' : World) : Prop :=
  ∃ (n : Nat) (v : Value) (ok : Bool), e = .returned (.tuple #[.int .i64 n, v, .bool ok]) ∧ Below w.heap.size w w' ∧
    ((ok = true ∧ ∃ r, num (128 ^ 3) L = some (n, r) ∧ Bt w' B v r) ∨ (ok = false ∧ num (128 ^ 3) L = none))

set_option maxRecDepth 100000 in
set_option maxHeartbeats 2000000 in
theorem readNumber_any (v : Value) (L : List Nat) (w : World) (B : Nat) (h : Bt w B v L) (hB : B ≤ w.heap.size) :
    Calls Tryz.prog 158 #[v] w (ReadNum B L w) := by
  have H := Lib.hid h
  have HB := Lib.hid hB
  clear hB
  obtain ⟨⟨A, c, rfl, hcap, -⟩, hl, hs⟩ := h
  have HS := Lib.hid hs
  have hl' : L.length ≤ 2 ^ 63 - 1 := by unfold maxLen at hl; omega
  clear hs hl
  generalize hn : L.length = n at *
  have HN := Lib.hid hn
  clear hn
  go_enter Tryz.func158, Tryz.ntmps158
  go_wp2
  all_goals
    go_loopw [5, 11] (fun s5 i wr => ∃ k : Nat, k ≤ 3 ∧ k ≤ n ∧ i = .int .i64 k ∧ s5 = .int .i64 (lowN k L : Nat) ∧ (∀ j, j < k → 128 ≤ L.getD j 0) ∧ Below w.heap.size w wr) (fun _ i _ => 3 - (intOf i).toNat)
    case atStart => exact ⟨0, by omega, Nat.zero_le _, rfl, rfl, fun j hj => absurd hj (by omega), Below.refl _ _⟩
    case round =>
      obtain ⟨k, hk3, hkn, rfl, rfl, hall, K⟩ := hrel
      have HA := Lib.hid hall
      clear hall
      by_cases hlt : k < 3 ∧ k < n
      · obtain ⟨h3, hn⟩ := hlt
        obtain ⟨b, off, rfl, hb, q⟩ := (H.out.below K HB.out).cell (k := k) (by rw [HN.out]; exact hn)
        have zlt := HS.out.getD k
        have hlo := lowN_lt k L
        have hlo2 : lowN k L < 2097152 := Nat.lt_of_lt_of_le hlo (Nat.pow_le_pow_right (n := 128) (j := 3) (by omega) (by omega))
        clear hlo
        have hsucc := Lib.hid (lowN_succ k L)
        generalize hz : L.getD k 0 = z at *
        have HZ := Lib.hid hz
        clear hz
        by_cases h128 : z < 128
        · have hnum := Lib.hid (fun (hz : 0 < k → 0 < z) => num_at (K := 3) h3 (by rw [HN.out]; exact hn) HA.out (by rw [HZ.out]; exact h128) HS.out (by rw [HZ.out]; omega))
          have hbad := Lib.hid (fun (h0 : 0 < k) (hz : z = 0) => num_bad (m := 128 ^ 3) (by rw [HN.out]; exact hn) HA.out (by rw [HZ.out]; exact h128) HS.out (by rw [HZ.out]; omega))
          have hdrop := Lib.hid (fun (A : Option Addr) (hA : c ≠ k + 1 → A = some ⟨b, off + (k + 1), none⟩) => (H.out.below K HB.out).drop_at (k := k + 1) (by omega) hA)
          have hdrop0 : Hid (c = k + 1 → Bt wr B (.slice (some ⟨b, off, none⟩) (n - (k + 1)) 0) (L.drop (k + 1))) := Lib.hid (fun hc => by
            have := (H.out.below K HB.out).drop_at (k := k + 1) (A := some ⟨b, off, none⟩) (by omega) (fun h => absurd hc h)
            rw [hc, Nat.sub_self] at this
            exact this)
          rcases (by omega : k = 0 ∨ k = 1 ∨ k = 2) with rfl | rfl | rfl
          · (try simp only [Nat.add_zero] at q)
            go_wp2_with fail
            all_goals go_quiet (fail)
            all_goals go_wp2_with fail
            all_goals
              go_ret3
              first
                | exact ⟨lowN 1 L, _, _, ret_three (int_eq (by rw [hsucc.out]; simp)) rfl rfl, below_drewN K _, .inl ⟨rfl, _, hnum.out (by omega), Bt.below (hdrop.out _ (fun _ => rfl)) (below_drewN (Below.refl _ _) nq) (Nat.le_refl _)⟩⟩
                | exact ⟨lowN 1 L, _, _, ret_three (int_eq (by rw [hsucc.out]; simp)) rfl rfl, below_drewN K _, .inl ⟨rfl, _, hnum.out (by omega), Bt.below (hdrop0.out (by assumption)) (below_drewN (Below.refl _ _) nq) (Nat.le_refl _)⟩⟩
          · (try simp only [Nat.add_zero] at q)
            go_wp2_with fail
            all_goals go_quiet (fail)
            all_goals go_wp2_with fail
            all_goals
              go_ret3
              by_cases hz : 0 < z
              · first
                  | exact ⟨lowN (1 + 1) L, _, _, ret_three (int_eq (by rw [hsucc.out]; simp)) rfl rfl, below_drewN K _, .inl ⟨decide_eq_true hz, _, hnum.out (fun _ => hz), Bt.below (hdrop.out _ (fun _ => rfl)) (below_drewN (Below.refl _ _) nq) (Nat.le_refl _)⟩⟩
                  | exact ⟨lowN (1 + 1) L, _, _, ret_three (int_eq (by rw [hsucc.out]; simp)) rfl rfl, below_drewN K _, .inl ⟨decide_eq_true hz, _, hnum.out (fun _ => hz), Bt.below (hdrop0.out (by assumption)) (below_drewN (Below.refl _ _) nq) (Nat.le_refl _)⟩⟩
              · exact ⟨lowN (1 + 1) L, _, _, ret_three (int_eq (by rw [hsucc.out]; simp)) rfl rfl, below_drewN K _, .inr ⟨decide_eq_false hz, hbad.out (by omega) (by omega)⟩⟩
          · (try simp only [Nat.add_zero] at q)
            go_wp2_with fail
            all_goals go_quiet (fail)
            all_goals go_wp2_with fail
            all_goals
              go_ret3
              by_cases hz : 0 < z
              · first
                  | exact ⟨lowN (2 + 1) L, _, _, ret_three (int_eq (by rw [hsucc.out]; simp)) rfl rfl, below_drewN K _, .inl ⟨decide_eq_true hz, _, hnum.out (fun _ => hz), Bt.below (hdrop.out _ (fun _ => rfl)) (below_drewN (Below.refl _ _) nq) (Nat.le_refl _)⟩⟩
                  | exact ⟨lowN (2 + 1) L, _, _, ret_three (int_eq (by rw [hsucc.out]; simp)) rfl rfl, below_drewN K _, .inl ⟨decide_eq_true hz, _, hnum.out (fun _ => hz), Bt.below (hdrop0.out (by assumption)) (below_drewN (Below.refl _ _) nq) (Nat.le_refl _)⟩⟩
              · exact ⟨lowN (2 + 1) L, _, _, ret_three (int_eq (by rw [hsucc.out]; simp)) rfl rfl, below_drewN K _, .inr ⟨decide_eq_false hz, hbad.out (by omega) (by omega)⟩⟩
        · rcases (by omega : k = 0 ∨ k = 1 ∨ k = 2) with rfl | rfl | rfl
          · (try simp only [Nat.add_zero] at q)
            go_wp2
            refine ⟨⟨1, by omega, by omega, by go_num, ?_, ?_, K⟩, by simp [intOf]⟩
            · refine int_eq ?_
              rw [hsucc.out]
              simp
            · intro j hj
              by_cases h : j < 0
              · exact HA.out j h
              · obtain rfl : j = 0 := by omega
                rw [HZ.out]; omega
          · (try simp only [Nat.add_zero] at q)
            go_wp2
            refine ⟨⟨2, by omega, by omega, by go_num, ?_, ?_, K⟩, by simp [intOf]⟩
            · refine int_eq ?_
              rw [hsucc.out]
              simp
            · intro j hj
              by_cases h : j < 1
              · exact HA.out j h
              · obtain rfl : j = 1 := by omega
                rw [HZ.out]; omega
          · (try simp only [Nat.add_zero] at q)
            go_wp2
            refine ⟨⟨3, by omega, by omega, by go_num, ?_, ?_, K⟩, by simp [intOf]⟩
            · refine int_eq ?_
              rw [hsucc.out]
              simp
            · intro j hj
              by_cases h : j < 2
              · exact HA.out j h
              · obtain rfl : j = 2 := by omega
                rw [HZ.out]; omega
      · have hend : num (128 ^ 3) L = none := num_end (by omega) fun j h1 h2 => HA.out j (by have := HN.out; omega)
        have HE := Lib.hid hend
        clear hend
        rcases (by omega : k = 3 ∨ k = n) with rfl | rfl
        all_goals first
          | (exfalso; omega)
          | (go_wp2
             go_ret3
             exact ⟨0, _, _, ret_three rfl rfl rfl, K, .inr ⟨rfl, HE.out⟩⟩)

/-- What l3Get answers of the bytes L from place i on. -/
def GotNum (L : List Nat) (i : Nat) (w : World) (e : Ending) (w' : World) : Prop :=
  w = w' ∧ ((∃ n p : Nat, e = .returned (.tuple #[.int .i64 n, .int .i64 p]) ∧ p ≤ L.length ∧ num (128 ^ 4) (L.drop i) = some (n, L.drop p)) ∨ (e = .returned (.tuple #[.int .i64 (-1), .int .i64 0]) ∧ num (128 ^ 4) (L.drop i) = none))

set_option maxRecDepth 100000 in
set_option maxHeartbeats 2000000 in
theorem get_any (v : Value) (L : List Nat) (i : Nat) (w : World) (h : Bt w w.heap.size v L) (hi : i ≤ L.length) :
    Calls Tryz.prog 106 #[v, .int .i64 i] w (GotNum L i w) := by
  have H := Lib.hid h
  obtain ⟨⟨A, c, rfl, hcap, -⟩, hl, hs⟩ := h
  have HS := Lib.hid hs
  have hl' : L.length ≤ 2 ^ 63 - 1 := by unfold maxLen at hl; omega
  have HM := Lib.hid (show SmallB (L.drop i) from hs.drop i)
  clear hs hl
  generalize hn : L.length = n at *
  have HN := Lib.hid hn
  clear hn
  go_enter Tryz.func106, Tryz.ntmps106
  go_wp2
  go_loop [6, 7] (fun s6 kk => ∃ k : Nat, k ≤ 4 ∧ i + k ≤ n ∧ kk = .int .i64 k ∧ s6 = .int .i64 (lowN k (L.drop i) : Nat) ∧ (∀ j, j < k → 128 ≤ (L.drop i).getD j 0)) (fun _ kk => 4 - (intOf kk).toNat)
  case atStart => exact ⟨0, by omega, by omega, rfl, rfl, fun j hj => absurd hj (by omega)⟩
  case round =>
    obtain ⟨k, hk4, hkn, rfl, rfl, hall⟩ := hrel
    have HA := Lib.hid hall
    clear hall
    have hlo := lowN_lt k (L.drop i)
    have hlo2 : lowN k (L.drop i) < 268435456 := Nat.lt_of_lt_of_le hlo (Nat.pow_le_pow_right (n := 128) (j := 4) (by omega) (by omega))
    clear hlo
    by_cases h4 : k < 4
    · by_cases hin : i + k < n
      · obtain ⟨b, off, rfl, hb, q⟩ := H.out.cell (k := i + k) (by rw [HN.out]; exact hin)
        have zlt := HS.out.getD (i + k)
        have hsucc := Lib.hid (lowN_succ k (L.drop i))
        rw [← getD_drop] at q zlt
        generalize hz : (L.drop i).getD k 0 = z at *
        have HZ := Lib.hid hz
        clear hz
        have hkl : k < (L.drop i).length := by rw [List.length_drop, HN.out]; omega
        by_cases h128 : z < 128
        · have hnum : Hid ((0 < k → 0 < z) → num (128 ^ 4) (L.drop i) = some (lowN (k + 1) (L.drop i), L.drop (i + (k + 1)))) := Lib.hid (fun (hz : 0 < k → 0 < z) => by rw [← List.drop_drop]; exact num_at (K := 4) h4 hkl HA.out (by rw [HZ.out]; exact h128) HM.out (by rw [HZ.out]; omega))
          have hbad := Lib.hid (fun (h0 : 0 < k) (hz : z = 0) => num_bad (m := 128 ^ 4) hkl HA.out (by rw [HZ.out]; exact h128) HM.out (by rw [HZ.out]; omega))
          clear hkl
          rcases (by omega : k = 0 ∨ k = 1 ∨ k = 2 ∨ k = 3) with rfl | rfl | rfl | rfl
          · simp only [Nat.add_zero] at q
            go_wp2
            go_ret2
            exact ⟨rfl, .inl ⟨lowN (0 + 1) (L.drop i), i + (0 + 1), ret_two (int_eq (by rw [hsucc.out]; simp)) (int_eq (by omega)), by rw [HN.out]; omega, hnum.out (by omega)⟩⟩
          · by_cases hz : z = 0
            · subst hz
              go_wp2
              go_ret2
              exact ⟨rfl, .inr ⟨rfl, hbad.out (by omega) (by first | trivial | rfl)⟩⟩
            · have hz1 : ((z : Int) == 0) = false := by simp; omega
              have hz2 : ¬ (z : Int) = 0 := by omega
              go_wp2
              go_ret2
              exact ⟨rfl, .inl ⟨lowN (1 + 1) (L.drop i), i + (1 + 1), ret_two (int_eq (by rw [hsucc.out]; simp)) (int_eq (by omega)), by rw [HN.out]; omega, hnum.out (fun _ => by omega)⟩⟩
          · by_cases hz : z = 0
            · subst hz
              go_wp2
              go_ret2
              exact ⟨rfl, .inr ⟨rfl, hbad.out (by omega) (by first | trivial | rfl)⟩⟩
            · have hz1 : ((z : Int) == 0) = false := by simp; omega
              have hz2 : ¬ (z : Int) = 0 := by omega
              go_wp2
              go_ret2
              exact ⟨rfl, .inl ⟨lowN (2 + 1) (L.drop i), i + (2 + 1), ret_two (int_eq (by rw [hsucc.out]; simp)) (int_eq (by omega)), by rw [HN.out]; omega, hnum.out (fun _ => by omega)⟩⟩
          · by_cases hz : z = 0
            · subst hz
              go_wp2
              go_ret2
              exact ⟨rfl, .inr ⟨rfl, hbad.out (by omega) (by first | trivial | rfl)⟩⟩
            · have hz1 : ((z : Int) == 0) = false := by simp; omega
              have hz2 : ¬ (z : Int) = 0 := by omega
              go_wp2
              go_ret2
              exact ⟨rfl, .inl ⟨lowN (3 + 1) (L.drop i), i + (3 + 1), ret_two (int_eq (by rw [hsucc.out]; simp)) (int_eq (by omega)), by rw [HN.out]; omega, hnum.out (fun _ => by omega)⟩⟩
        · rcases (by omega : k = 0 ∨ k = 1 ∨ k = 2 ∨ k = 3) with rfl | rfl | rfl | rfl
          · (try simp only [Nat.add_zero] at q)
            go_wp2
            refine ⟨⟨1, by omega, by omega, by go_num, ?_, ?_⟩, by simp [intOf]⟩
            · refine int_eq ?_
              rw [hsucc.out]
              simp
            · intro j hj
              by_cases h : j < 0
              · exact HA.out j h
              · obtain rfl : j = 0 := by omega
                rw [HZ.out]; omega
          · (try simp only [Nat.add_zero] at q)
            go_wp2
            refine ⟨⟨2, by omega, by omega, by go_num, ?_, ?_⟩, by simp [intOf]⟩
            · refine int_eq ?_
              rw [hsucc.out]
              simp
            · intro j hj
              by_cases h : j < 1
              · exact HA.out j h
              · obtain rfl : j = 1 := by omega
                rw [HZ.out]; omega
          · (try simp only [Nat.add_zero] at q)
            go_wp2
            refine ⟨⟨3, by omega, by omega, by go_num, ?_, ?_⟩, by simp [intOf]⟩
            · refine int_eq ?_
              rw [hsucc.out]
              simp
            · intro j hj
              by_cases h : j < 2
              · exact HA.out j h
              · obtain rfl : j = 2 := by omega
                rw [HZ.out]; omega
          · (try simp only [Nat.add_zero] at q)
            go_wp2
            refine ⟨⟨4, by omega, by omega, by go_num, ?_, ?_⟩, by simp [intOf]⟩
            · refine int_eq ?_
              rw [hsucc.out]
              simp
            · intro j hj
              by_cases h : j < 3
              · exact HA.out j h
              · obtain rfl : j = 3 := by omega
                rw [HZ.out]; omega
      · obtain rfl : i + k = n := by omega
        have hend : num (128 ^ 4) (L.drop i) = none := num_end (by omega) fun j h1 h2 => HA.out j (by have := HN.out; rw [List.length_drop] at h2; omega)
        have HE := Lib.hid hend
        clear hend
        go_wp2
        go_ret2
        exact ⟨rfl, .inr ⟨rfl, HE.out⟩⟩
    · obtain rfl : k = 4 := by omega
      have hend : num (128 ^ 4) (L.drop i) = none := num_end (by omega) fun j h1 h2 => HA.out j (by omega)
      have HE := Lib.hid hend
      clear hend
      go_wp2
      go_ret2
      exact ⟨rfl, .inr ⟨rfl, HE.out⟩⟩
end Go.Proofs.YtkefbmbjkijilaaGreatDoor
/- Bf -/
set_option linter.unusedVariables false
namespace Go.Proofs.YtkefbmbjkijilaaGreatDoor
open Go.RowKit

/-- So many numbers ahead, one behind the other. -/
def nums (m : Nat) : Nat → List Nat → Option (List Nat × List Nat)
  | 0, L => some ([], L)
  | k + 1, L => (nums m k L).bind fun p => (num m p.2).map fun q => (p.1 ++ [q.1], q.2)
theorem nums_step {m k n : Nat} {L M R : List Nat} {ns : List Nat} (h : nums m k L = some (ns, M)) (h1 : num m M = some (n, R)) : nums m (k + 1) L = some (ns ++ [n], R) := by
  rw [nums, h]; simp [h1]
theorem nums_stop {m k : Nat} {L M : List Nat} {ns : List Nat} (h : nums m k L = some (ns, M)) (h1 : num m M = none) : nums m (k + 1) L = none := by
  rw [nums, h]; simp [h1]
theorem nums_none {m k j : Nat} {L : List Nat} (h : nums m k L = none) (hj : k ≤ j) : nums m j L = none := by
  induction j with
  | zero => obtain rfl : k = 0 := by omega
            exact h
  | succ j ih =>
    by_cases e : k = j + 1
    · subst e; exact h
    · rw [nums, ih (by omega)]; rfl
theorem nums_len {m k : Nat} {L M : List Nat} {ns : List Nat} (h : nums m k L = some (ns, M)) : ns.length = k := by
  induction k generalizing ns M with
  | zero => cases h; rfl
  | succ k ih =>
    rw [nums] at h
    cases e : nums m k L with
    | none => rw [e] at h; cases h
    | some p =>
      obtain ⟨a, b⟩ := p
      rw [e] at h
      cases e2 : num m b with
      | none => simp [e2] at h
      | some q =>
        simp [e2] at h
        obtain ⟨h1, h2⟩ := h
        subst h1
        simp [ih e]
theorem getRec_nums {m : Nat} (hm : 1000000 < m) (L : List Nat) : getRec L =
    (nums m 3 L).bind fun p => if recOkB ⟨p.1.getD 0 0, p.1.getD 1 0, p.1.getD 2 0⟩ then some (⟨p.1.getD 0 0, p.1.getD 1 0, p.1.getD 2 0⟩, p.2) else none := by
  rw [getRec_num hm]
  simp only [nums]
  cases h1 : num m L with
  | none => simp [h1]
  | some p =>
    cases h2 : num m p.2 with
    | none => simp [h1, h2]
    | some q =>
      cases h3 : num m q.2 with
      | none => simp [h1, h2, h3]
      | some s => simp [h1, h2, h3]
theorem getD_snoc (ns : List Nat) (n j : Nat) : (ns ++ [n]).getD j 0 = if j = ns.length then n else ns.getD j 0 := by
  by_cases h : j < ns.length
  · rw [if_neg (by omega)]
    simp [List.getD, List.getElem?_append_left h]
  · by_cases e : j = ns.length
    · subst e; simp [List.getD]
    · rw [if_neg e]
      simp only [List.getD]
      rw [List.getElem?_eq_none (by simp; omega), List.getElem?_eq_none (by omega)]

/-- What readRec answers of the bytes L. -/
def ReadRec (B : Nat) (L : List Nat) (w : World) (e : Ending) (w' : World) : Prop :=
  ∃ (r : RecD) (v : Value) (ok : Bool), e = .returned (.tuple #[recV r, v, .bool ok]) ∧ Below w.heap.size w w' ∧
    ((ok = true ∧ ∃ R, getRec L = some (r, R) ∧ Bt w' B v R) ∨ (ok = false ∧ getRec L = none))
abbrev zero3 : Array Value := #[.int .i64 0, .int .i64 0, .int .i64 0]

set_option maxRecDepth 100000 in
set_option maxHeartbeats 4000000 in
theorem readRec_any (v : Value) (L : List Nat) (w : World) (B : Nat) (hN : Names w) (h : Bt w B v L) (hB : B ≤ w.heap.size) :
    Calls Tryz.prog 159 #[v] w (ReadRec B L w) := by
  have H := Lib.hid h
  have HN := Lib.hid hN
  have HB := Lib.hid hB
  clear h hN hB
  go_enter Tryz.func159, Tryz.ntmps159
  go_wp2_with fail
  have X0 := Own.box w zero3 96
  have Y0 := Own.box2 X0.K zero3 185
  have X1 := X0.alloc (.cells zero3 185)
  have R1 : RowF ((w.alloc (.cells zero3 96)).alloc (.cells zero3 185)) (w.heap.size + 1) 3 (fun j => (([] : List Nat).getD j 0 : Nat)) := fun j hj => by
    have h1 := Y0.C j
    have h2 := Y0.F j
    rw [show (w.alloc (.cells zero3 96)).heap.size = w.heap.size + 1 by simp] at h1 h2
    refine ⟨h1.trans ?_, h2⟩
    rcases (by omega : j = 0 ∨ j = 1 ∨ j = 2) with rfl | rfl | rfl <;> rfl
  have hz1 : w.heap.size + 1 < ((w.alloc (.cells zero3 96)).alloc (.cells zero3 185)).heap.size := by simp
  have hB1 : Bt ((w.alloc (.cells zero3 96)).alloc (.cells zero3 185)) B v L := H.out.below X1.K HB.out
  clear X0 Y0
  go_loopw [0, 11] (fun s0 s11 wr => ∃ (k : Nat) (ns M : List Nat), k ≤ 3 ∧ s11 = .int .i64 k ∧ nums (128 ^ 3) k L = some (ns, M) ∧ Bt wr B s0 M ∧ Own w wr w.heap.size zero3 ∧ RowF wr (w.heap.size + 1) 3 (fun j => (ns.getD j 0 : Nat)) ∧ w.heap.size + 1 < wr.heap.size) (fun _ s11 _ => 3 - (intOf s11).toNat)
  case atStart => exact ⟨0, [], L, by omega, rfl, rfl, hB1, X1, R1, hz1⟩
  case round =>
    clear X1 R1 hz1 hB1
    obtain ⟨k, ns, M, hk, rfl, hns, hM, X, R, hz⟩ := hrel
    have HNS := Lib.hid hns
    have hln := nums_len hns
    have HLN := Lib.hid hln
    have HM := Lib.hid hM
    have HX := Lib.hid X
    have HR := Lib.hid R
    clear hns hln hM X R
    by_cases hlt : k < 3
    · go_wp2_with fail
      refine (readNumber_any u0 M wr B HM.out (Nat.le_trans HB.out HX.out.K.size)).mono ?_
      rintro e w2 ⟨n, v2, ok, rfl, hb, hor⟩
      have HOR := Lib.hid hor
      have X2 := HX.out.step hb
      have HX2 := Lib.hid X2
      have R2 := HR.out.below hb hz
      have hz2 : w.heap.size + 1 < w2.heap.size := Nat.lt_of_lt_of_le hz hb.size
      obtain ⟨t0, f0⟩ := R2 k hlt
      have HR2 := Lib.hid R2
      have hC := X2.C
      have hF := X2.F
      clear hor X2 R2 hb HX HR HM
      cases ok
      · have hno : getRec L = none := by
          rw [getRec_nums (m := 128 ^ 3) (by decide), nums_none (k := k + 1) (nums_stop HNS.out (HOR.out.resolve_left (fun h => by cases h.1)).2) (by omega)]
          rfl
        have HNO := Lib.hid hno
        clear hno t0 f0
        go_wp2
        have X6 := ((HX2.out.set (Nat.le_refl _) (i := 0) (by decide) (.int .i64 0)).set (Nat.le_refl _) (i := 1) (by simp) (.int .i64 0)).set (Nat.le_refl _) (i := 2) (by simp) (.int .i64 0)
        have r6 := X6.C
        refine bodyPost_ret (v := .tuple #[recV ⟨0, 0, 0⟩, .slice none 0 0, .bool false]) ?_ rfl ⟨⟨0, 0, 0⟩, _, _, rfl, X6.K, .inr ⟨rfl, HNO.out⟩⟩
        simp [results, Tryz.results159, go_sem, r6, recV]
      · obtain ⟨R, hnum, hbt⟩ := (HOR.out.resolve_right (fun h => by cases h.1)).2
        have HNUM := Lib.hid hnum
        have HBT := Lib.hid hbt
        clear hnum hbt HOR
        go_wp2_with fail
        have hpb : w.heap.size ≤ w.heap.size + 1 := by omega
        have K7 : Below w.heap.size w2 (w2.setCell ⟨w.heap.size + 1, k, none⟩ (.int .i64 n)) := (Below.refl _ _).setCell hpb _
        refine ⟨⟨k + 1, ns ++ [n], R, by omega, by go_num, nums_step HNS.out HNUM.out, HBT.out.below K7 HB.out, HX2.out.far hpb (by show ¬ w.heap.size + 1 = w.heap.size; omega) _, ?_, by simpa [World.setCell] using hz2⟩, by simp [intOf]; omega⟩
        refine (HR2.out.set (i := k) n).congr fun j hj => ?_
        show (if j = k then (n : Int) else (ns.getD j 0 : Nat)) = ((ns ++ [n]).getD j 0 : Nat)
        rw [getD_snoc, HLN.out]
        by_cases e : j = k
        · rw [if_pos e, if_pos e]
        · rw [if_neg e, if_neg e]
    · obtain rfl : k = 3 := by omega
      have t0 : wr.cell? ⟨w.heap.size + 1, 0, none⟩ = some (.int .i64 (ns.getD 0 0 : Nat)) := (HR.out 0 (by omega)).1
      have t1 : wr.cell? ⟨w.heap.size + 1, 1, none⟩ = some (.int .i64 (ns.getD 1 0 : Nat)) := (HR.out 1 (by omega)).1
      have t2 : wr.cell? ⟨w.heap.size + 1, 2, none⟩ = some (.int .i64 (ns.getD 2 0 : Nat)) := (HR.out 2 (by omega)).1
      have HG : Hid (getRec L = if recOkB ⟨ns.getD 0 0, ns.getD 1 0, ns.getD 2 0⟩ then some (⟨ns.getD 0 0, ns.getD 1 0, ns.getD 2 0⟩, M) else none) := Lib.hid (by rw [getRec_nums (m := 128 ^ 3) (by decide), HNS.out]; rfl)
      generalize ns.getD 0 0 = n0 at *
      generalize ns.getD 1 0 = n1 at *
      generalize ns.getD 2 0 = n2 at *
      go_wp2_with fail
      have Y := Own.box2 HX.out.K #[.int .i64 n0, .int .i64 n1, .int .i64 n2] 96
      have X := HX.out.alloc (.cells #[.int .i64 n0, .int .i64 n1, .int .i64 n2] 96)
      have BM : Bt (wr.alloc (.cells #[.int .i64 n0, .int .i64 n1, .int .i64 n2] 96)) B u0 M := HM.out.below (Below.alloc (Below.refl _ _) (Nat.le_refl _) _) (Nat.le_trans HB.out HX.out.K.size)
      have HBM := Lib.hid BM
      have hgw0 : w.heap.size < wr.heap.size := HX.out.z
      clear t0 t1 t2 BM HX HR HM
      generalize wr.alloc (.cells #[.int .i64 n0, .int .i64 n1, .int .i64 n2] 96) = W at Y X HBM ⊢
      generalize wr.heap.size = g at Y hgw0 ⊢
      have hgw : w.heap.size < g := hgw0
      have HFIN : Hid (∀ wf, Below w.heap.size W wf → ((recOkB ⟨n0, n1, n2⟩ = true ∧ ∃ R, getRec L = some (⟨n0, n1, n2⟩, R) ∧ Bt wf B u0 R) ∨ (recOkB ⟨n0, n1, n2⟩ = false ∧ getRec L = none))) := Lib.hid fun wf hK => by
        cases hok : recOkB ⟨n0, n1, n2⟩
        · exact .inr ⟨rfl, by rw [HG.out, if_neg (by rw [hok]; decide)]⟩
        · exact .inl ⟨rfl, M, by rw [HG.out, if_pos hok], HBM.out.below hK HB.out⟩
      have hne1 : ¬ g = w.heap.size := by omega
      have hne2 : ¬ w.heap.size = g := by omega
      have hWsz := X.K.size
      have Yd := Y.step (Below.refl _ _).drew
      have Xd := X.step (Below.refl _ _).drew
      have NWd := Lib.hid (HN.out.go Xd.K)
      have XS := ((Xd.set (Nat.le_refl _) (i := 0) (by decide) (.int .i64 n0)).set (Nat.le_refl _) (i := 1) (by simp) (.int .i64 n1)).set (Nat.le_refl _) (i := 2) (by simp) (.int .i64 n2)
      have YS := ((Yd.far (p := ⟨w.heap.size, 0, none⟩) (Nat.le_refl _) hne2 (.int .i64 n0)).far (p := ⟨w.heap.size, 1, none⟩) (Nat.le_refl _) hne2 (.int .i64 n1)).far (p := ⟨w.heap.size, 2, none⟩) (Nat.le_refl _) hne2 (.int .i64 n2)
      have NWS := Lib.hid (HN.out.go XS.K)
      have q0 := Yd.C
      have c0 := Xd.C
      have f0 := Xd.F
      have HXd := Lib.hid Xd
      have HYd := Lib.hid Yd
      have HXS := Lib.hid XS
      have HYS := Lib.hid YS
      clear Xd Yd XS YS X Y
      go_region_law (first
        | (go_simp
           go_at_call 102
           refine (recOk_any ⟨n0, n1, n2⟩ _ NWd.out).mono ?_
           rintro e w5 ⟨rfl, hb5⟩
           have X5 := HXd.out.step hb5
           have K5 : Below w.heap.size W w5 := (Below.refl w.heap.size W).drew.trans (hb5.mono hWsz)
           have q5 := (HYd.out.step hb5).C
           have c5 := X5.C
           have f5 := X5.F)
        | (go_simp
           go_at_call 102
           refine (recOk_any ⟨n0, n1, n2⟩ _ NWS.out).mono ?_
           rintro e w5 ⟨rfl, hb5⟩
           have X5 := HXS.out.step hb5
           have K5 : Below w.heap.size W w5 := ((((Below.refl w.heap.size W).drew.setCell (p := ⟨w.heap.size, 0, none⟩) (Nat.le_refl _) (.int .i64 n0)).setCell (p := ⟨w.heap.size, 1, none⟩) (Nat.le_refl _) (.int .i64 n1)).setCell (p := ⟨w.heap.size, 2, none⟩) (Nat.le_refl _) (.int .i64 n2)).trans (hb5.mono (by simpa [World.setCell] using hWsz))
           have q5 := (HYS.out.step hb5).C
           have c5 := X5.C
           have f5 := X5.F))
      all_goals
        clear q5 c5 f5 q0 c0 f0
        go_wp2_with fail
        first
          | (have X6 := ((X5.set (Nat.le_refl _) (i := 0) (by decide) (.int .i64 n0)).set (Nat.le_refl _) (i := 1) (by simp) (.int .i64 n1)).set (Nat.le_refl _) (i := 2) (by simp) (.int .i64 n2)
             have K6 := ((K5.setCell (p := ⟨w.heap.size, 0, none⟩) (Nat.le_refl _) (.int .i64 n0)).setCell (p := ⟨w.heap.size, 1, none⟩) (Nat.le_refl _) (.int .i64 n1)).setCell (p := ⟨w.heap.size, 2, none⟩) (Nat.le_refl _) (.int .i64 n2)
             have r6 := X6.C
             refine bodyPost_ret (v := .tuple #[recV ⟨n0, n1, n2⟩, u0, .bool (recOkB ⟨n0, n1, n2⟩)]) ?_ rfl ⟨⟨n0, n1, n2⟩, u0, _, rfl, X6.K, HFIN.out _ K6⟩
             simp [results, Tryz.results159, go_sem, r6, recV])
          | (have r6 := X5.C
             refine bodyPost_ret (v := .tuple #[recV ⟨n0, n1, n2⟩, u0, .bool (recOkB ⟨n0, n1, n2⟩)]) ?_ rfl ⟨⟨n0, n1, n2⟩, u0, _, rfl, X5.K, HFIN.out _ K5⟩
             simp [results, Tryz.results159, go_sem, r6, recV])
end Go.Proofs.YtkefbmbjkijilaaGreatDoor
/- Bg -/
set_option linter.unusedVariables false
namespace Go.Proofs.YtkefbmbjkijilaaGreatDoor
open Go.RowKit

/-- Block g holds N whole numbers, as x tells, and no more; its elements are of type T. -/
structure CellsT (T : TypeId) (w : World) (g N : Nat) (x : Nat → Int) : Prop where
  it : ∃ cur, w.heap[g]? = some (.cells cur T (0, 0)) ∧ cur.size = N ∧ ∀ j, j < N → cur[j]? = some (.int .i64 (x j))
theorem CellsT.lt {T : TypeId} {w : World} {g N : Nat} {x : Nat → Int} (h : CellsT T w g N x) : g < w.heap.size := by
  obtain ⟨cur, hh, _⟩ := h
  exact (Array.getElem?_eq_some_iff.1 hh).1
theorem CellsT.at_ {T : TypeId} {w : World} {g N : Nat} {x : Nat → Int} (h : CellsT T w g N x) {j : Nat} (hj : j < N) : w.cell? ⟨g, j, none⟩ = some (.int .i64 (x j)) ∧ w.frozen? ⟨g, j, none⟩ = false := by
  obtain ⟨cur, hh, _, hc⟩ := h
  exact ⟨(cell_of_row _ _ _ _ _ _ hh).trans (hc j hj), frozen_of_row _ _ _ _ _ hh⟩
theorem CellsT.set {T : TypeId} {w : World} {g N : Nat} {x : Nat → Int} (h : CellsT T w g N x) (i : Nat) (v : Int) : CellsT T (w.setCell ⟨g, i, none⟩ (.int .i64 v)) g N (fun j => if j = i then v else x j) := by
  obtain ⟨cur, hh, hs, hc⟩ := h
  refine ⟨cur.setIfInBounds i (.int .i64 v), heap_setCell_same w g i cur _ _ hh, by simp [hs], fun j hj => ?_⟩
  by_cases e : j = i
  · subst e
    simp [hs, hj]
  · rw [Array.getElem?_setIfInBounds_ne (fun he => e he.symm), hc j hj, if_neg e]
theorem CellsT.congr {T : TypeId} {w : World} {g N : Nat} {x y : Nat → Int} (h : CellsT T w g N x) (e : ∀ j, j < N → x j = y j) : CellsT T w g N y := by
  obtain ⟨cur, hh, hs, hc⟩ := h
  exact ⟨cur, hh, hs, fun j hj => by rw [hc j hj, e j hj]⟩
theorem CellsT.go {T : TypeId} {w w' : World} {g N : Nat} {x : Nat → Int} (h : CellsT T w g N x) (hb : Below w.heap.size w w') : CellsT T w' g N x := by
  have hl := h.lt
  obtain ⟨cur, hh, hs, hc⟩ := h
  exact ⟨cur, (hb.block g hl).trans hh, hs, hc⟩
theorem CellsT.own {T : TypeId} {w : World} {B g n k : Nat} {xs : List Value} (h : ∃ x, CellsT T w g (n * k) x ∧ ∀ j, j < n * k → xs[j]? = some (.int .i64 (x j))) (hl : xs.length = n * k) (hB : B ≤ g) (hn : n ≤ maxLen) :
    w.ownsRow B T k (.slice (some ⟨g, 0, none⟩) n n) n xs := by
  obtain ⟨x, ⟨cur, hh, hs, hc⟩, hx⟩ := h
  refine ⟨hl, .inr ⟨g, n, cur, rfl, hB, hh, Nat.le_refl _, hn, hs, ?_⟩⟩
  rw [List.take_of_length_le (by simp [hs])]
  apply List.ext_getElem?
  intro j
  by_cases hj : j < n * k
  · rw [hx j hj, Array.getElem?_toList, hc j hj]
  · rw [List.getElem?_eq_none (by simp [hs]; omega), List.getElem?_eq_none (by omega)]
theorem CellsT.made {T : TypeId} {w : World} {B g n k : Nat} {z : Array Value} (hk : 0 < k) (hz : z = Array.replicate k (.int .i64 0))
    (h : w.ownsRow B T k (.slice (some ⟨g, 0, none⟩) n n) n (madeCells z (n * k)).toList) : CellsT T w g (n * k) (fun _ => 0) := by
  rcases h.2 with ⟨h1, _⟩ | ⟨g', cap, cur, h1, _, h2, _, _, h5, h6⟩
  · cases h1
  · injection h1 with h1 _ h3
    injection h1 with h1
    injection h1 with h1 _ _
    subst h1 h3
    refine ⟨cur, h2, h5, fun j hj => ?_⟩
    rw [List.take_of_length_le (by simp [h5])] at h6
    rw [← Array.getElem?_toList, h6, hz]
    simp [madeCells, hj]
    rw [getElem!_pos _ _ (by simp; exact Nat.mod_lt _ hk)]
    simp

/-- What ReadRecs answers of the bytes L. -/
def Read (L : List Nat) (w : World) (e : Ending) (w' : World) : Prop :=
  ∃ v, e = .returned (.tuple #[v, .bool (readN L).isSome]) ∧ OR w' w.heap.size v ((readN L).getD []) ∧ Below w.heap.size w w'
theorem readN_no {L : List Nat} (h : readN L = none) : (readN L).isSome = false ∧ (readN L).getD [] = [] := by rw [h]; exact ⟨rfl, rfl⟩
theorem readN_yes {L : List Nat} {l : List RecD} (h : readN L = some l) : (readN L).isSome = true ∧ (readN L).getD [] = l := by rw [h]; exact ⟨rfl, rfl⟩
theorem Rt.keeps {S : Nat → Prop} {w w' : World} {B : Nat} {v : Value} {l : List RecD} (h : Rt w B v l) (hk : Keeps S w w') (hB : B ≤ w.heap.size) (hS : ∀ b, b < B → ¬ S b) : Rt w' B v l :=
  h.below (hk.below (B := B) hB hS) (Nat.le_refl _)
theorem OR.keeps {S : Nat → Prop} {w w' : World} {B : Nat} {v : Value} {l : List RecD} (h : OR w B v l) (hk : Keeps S w w') (hS : ∀ r, B ≤ r → ¬ S r) : OR w' B v l := by
  obtain ⟨hl, ho⟩ := h
  refine ⟨hl, ho.imp id ?_⟩
  rintro ⟨g, cap, cur, hv, hb', hh, rest⟩
  exact ⟨g, cap, cur, hv, hb', (hk.block g (Array.getElem?_eq_some_iff.1 hh).1 (hS g hb')).trans hh, rest⟩
theorem readD_len (L : List Nat) : ((readN L).getD []).length ≤ 80 := by
  cases h : readN L with
  | none => simp
  | some l =>
    show l.length ≤ 80
    unfold readN at h
    split at h
    · cases h
    · rename_i n r h1
      split at h
      · cases h
      · rename_i h80
        cases h2 : getRecs n r with
        | none => rw [h2] at h; cases h
        | some q =>
          rw [h2] at h
          have hn : ∀ (n : Nat) (r : List Nat) (q : List RecD × List Nat), getRecs n r = some q → q.1.length = n := fun n => by
            induction n with
            | zero => intro r q h; cases h; rfl
            | succ n ih =>
              intro r q h
              rw [getRecs_succ] at h
              cases h1 : getRec r with
              | none => rw [h1] at h; cases h
              | some p =>
                rw [h1, Option.bind_some] at h
                cases h3 : getRecs n p.2 with
                | none => rw [h3] at h; cases h
                | some s =>
                  rw [h3] at h
                  cases h
                  simp [ih _ _ h3]
          have := hn n r q h2
          obtain ⟨l', r'⟩ := q
          dsimp only at h
          split at h
          · cases h; dsimp only at this; omega
          · cases h
theorem cellR_snoc (l : List RecD) (r : RecD) (j : Nat) : cellR (l ++ [r]) j = if j = l.length * 3 + 2 then r.b else if j = l.length * 3 + 1 then r.a else if j = l.length * 3 then r.k else cellR l j := by
  unfold cellR
  rw [flat_append]
  have hl := flat_length l
  by_cases h : j < l.length * 3
  · rw [if_neg (by omega), if_neg (by omega), if_neg (by omega)]
    simp [List.getD, List.getElem?_append_left (show j < (flat l).length by omega)]
  · have e : flat [r] = [r.k, r.a, r.b] := rfl
    rw [e, List.getD_eq_getElem?_getD, List.getElem?_append_right (by omega), hl]
    by_cases h3 : j < l.length * 3 + 3
    · rcases (by omega : j = l.length * 3 ∨ j = l.length * 3 + 1 ∨ j = l.length * 3 + 2) with rfl | rfl | rfl
      · rw [if_neg (by omega), if_neg (by omega), if_pos rfl]; simp
      · rw [if_neg (by omega), if_pos rfl]; simp
      · rw [if_pos rfl]; simp
    · rw [if_neg (by omega), if_neg (by omega), if_neg (by omega), List.getElem?_eq_none (by simp; omega), List.getD_eq_getElem?_getD, List.getElem?_eq_none (by omega)]
theorem or_empty_at {w : World} {B g : Nat} (hB : B ≤ w.heap.size) (hg : w.heap.size = g) : OR (w.alloc (.cells #[] 96)) B (.slice (some ⟨g, 0, none⟩) 0 0) [] := by
  subst hg
  exact OR.empty hB
theorem below_set3 {B : Nat} {w w' : World} {g i : Nat} {a b c : Value} (h : Below B w w') (hg : B ≤ g) : Below B w (((w'.setCell ⟨g, i, none⟩ a).setCell ⟨g, i + 1, none⟩ b).setCell ⟨g, i + 2, none⟩ c) :=
  ((h.setCell (p := ⟨g, i, none⟩) hg a).setCell (p := ⟨g, i + 1, none⟩) hg b).setCell (p := ⟨g, i + 2, none⟩) hg c

set_option maxRecDepth 100000 in
set_option maxHeartbeats 4000000 in
theorem readRecs_any (v : Value) (L : List Nat) (w : World) (hN : Names w) (h : Bt w w.heap.size v L) :
    Calls Tryz.prog 148 #[v] w (Read L w) := by
  have H := Lib.hid h
  have HN := Lib.hid hN
  clear h hN
  obtain ⟨i0, hi, hz0, hz1, hz2⟩ := info_parts info_rec
  have HI := Lib.hid hi
  have HZ0 := Lib.hid hz0
  have HZ1 := Lib.hid hz1
  have HZ2 := Lib.hid hz2
  clear hi hz0 hz1 hz2
  go_enter Tryz.func148, Tryz.ntmps148
  go_wp2_with fail
  refine (readNumber_any v L w w.heap.size H.out (Nat.le_refl _)).mono ?_
  rintro e w1 ⟨n, v1, ok, rfl, hb1, hor⟩
  have HOR := Lib.hid hor
  clear hor
  cases ok
  · have hno : readN L = none := by rw [readN_num (m := 128 ^ 3) (by decide), (HOR.out.resolve_left (fun h => by cases h.1)).2]; rfl
    have HNO := Lib.hid (readN_no hno)
    clear hno HOR
    go_wp2
    go_ret2
    exact ⟨_, ret_two rfl (bool_eq HNO.out.1.symm), by rw [HNO.out.2]; exact OR.empty hb1.size, hb1.alloc hb1.size _⟩
  · obtain ⟨R, hnum, hbt⟩ := (HOR.out.resolve_right (fun h => by cases h.1)).2
    have HBT := Lib.hid hbt
    have hrd := readN_num (m := 128 ^ 3) (by decide) L
    rw [hnum] at hrd
    have HRD := Lib.hid hrd
    clear hnum hbt HOR hrd
    by_cases h80 : 80 < n
    · have hno : readN L = none := by rw [HRD.out]; simp [h80]
      have HNO := Lib.hid (readN_no hno)
      clear hno
      go_wp2
      go_ret2
      exact ⟨_, ret_two rfl (bool_eq HNO.out.1.symm), by rw [HNO.out.2]; exact OR.empty hb1.size, hb1.alloc hb1.size _⟩
    · have hrd : readN L = (getRecs n R).bind fun q => if q.2 = [] then some q.1 else none := by rw [HRD.out]; simp [h80]
      have HRD := Lib.hid hrd
      clear hrd
      go_wp2_with (at_make; refine wpList_make_full _ rfl _ _ 93 rfl w.heap.size 96 i0 (.agg #[.int .i64 0, .int .i64 0, .int .i64 0]) 3 Tryz.underlying93 HI.out HZ0.out HZ1.out _ _ _ _ n rfl rfl rfl rfl ?b2 ?b3 hb1.size ?_)
      case b2 => rw [HZ2.out]; omega
      case b3 => unfold maxLen; omega
      intro w2 hown hgrow
      have K12 : Below w1.heap.size w1 w2 := (Below.refl _ _).grown hgrow (Nat.le_refl _) (fun k hk => by cases hk)
      have K2 := hb1.trans (K12.mono hb1.size)
      have C2 := CellsT.made (by omega) rfl hown
      have B2 := HBT.out.below K12 hb1.size
      have hg : w.heap.size ≤ w1.heap.size := hb1.size
      clear hown hgrow K12 hb1 HBT
      generalize w1.heap.size = g at *
      have hn80 : n ≤ 80 := by omega
      clear h80
      go_wp2_with fail
      go_loopw [5, 26] (fun s5 s26 wr => ∃ (k : Nat) (done : List RecD) (M : List Nat), k ≤ n ∧ s26 = .int .i64 k ∧ done.length = k ∧ getRecs n R = (getRecs (n - k) M).map (fun q => (done ++ q.1, q.2)) ∧
        Bt wr w.heap.size s5 M ∧ CellsT 96 wr g (n * 3) (cellR done) ∧ Below w.heap.size w wr) (fun _ s26 _ => n - (intOf s26).toNat)
      case atStart => exact ⟨0, [], R, Nat.zero_le _, rfl, rfl, by simp, B2, C2.congr (fun j _ => by simp [cellR, flat]), K2⟩
      case round =>
        clear K2 C2 B2
        obtain ⟨k, done, M, hk, rfl, hlen, hget, hM, C, K⟩ := hrel
        have HG := Lib.hid hget
        have HM := Lib.hid hM
        have HC := Lib.hid C
        have HK := Lib.hid K
        have HL := Lib.hid hlen
        have hgl := C.lt
        clear hget hM C K hlen
        by_cases hlt : k < n
        · go_wp2_with fail
          refine (readRec_any u5 M wr w.heap.size (HN.out.go HK.out) HM.out HK.out.size).mono ?_
          rintro e w3 ⟨r, v3, ok, rfl, hb3, hor⟩
          have HOR := Lib.hid hor
          have C3 := HC.out.go hb3
          have HC3 := Lib.hid C3
          obtain ⟨t0, f0⟩ := C3.at_ (j := k * 3) (by omega)
          obtain ⟨t1, f1⟩ := C3.at_ (j := k * 3 + 1) (by omega)
          obtain ⟨t2, f2⟩ := C3.at_ (j := k * 3 + 2) (by omega)
          generalize cellR done (k * 3) = y0 at t0
          generalize cellR done (k * 3 + 1) = y1 at t1
          generalize cellR done (k * 3 + 2) = y2 at t2
          have HK3 := Lib.hid (HK.out.trans (hb3.mono HK.out.size))
          have hs3 := hb3.size
          clear hor C3 hb3 HC HK HM
          obtain ⟨rk, ra, rb⟩ := r
          have hw : n - k = (n - (k + 1)) + 1 := by omega
          cases ok
          · have hno : readN L = none := by
              rw [HRD.out, HG.out, hw, getRecs_succ, (HOR.out.resolve_left (fun h => by cases h.1)).2]
              rfl
            have HNO := Lib.hid (readN_no hno)
            clear hno hw
            unfold recV
            dsimp only
            go_wp2
            go_ret2
            have KS := below_set3 HK3.out (i := k * 3) (a := .int .i64 rk) (b := .int .i64 ra) (c := .int .i64 rb) hg
            exact ⟨_, ret_two rfl (bool_eq HNO.out.1.symm), by rw [HNO.out.2]; exact or_empty_at KS.size (by simp [World.setCell]), KS.alloc KS.size _⟩
          · obtain ⟨R2, hrec, hbt⟩ := (HOR.out.resolve_right (fun h => by cases h.1)).2
            have HREC := Lib.hid hrec
            have HBT := Lib.hid hbt
            clear hrec hbt hw
            unfold recV
            dsimp only
            go_wp2
            have KS := below_set3 HK3.out (i := k * 3) (a := .int .i64 rk) (b := .int .i64 ra) (c := .int .i64 rb) hg
            have KB : Below w.heap.size w3 _ := below_set3 (Below.refl w.heap.size w3) (i := k * 3) (a := .int .i64 rk) (b := .int .i64 ra) (c := .int .i64 rb) hg
            refine ⟨⟨k + 1, done ++ [⟨rk, ra, rb⟩], R2, by omega, by go_num, by simp [HL.out], ?_, HBT.out.below KB (Nat.le_refl _), ?_, KS⟩, by simp [intOf]; omega⟩
            · rw [HG.out, show n - k = (n - (k + 1)) + 1 by omega, getRecs_succ, HREC.out, Option.bind_some]
              dsimp only
              cases getRecs (n - (k + 1)) R2 with
              | none => rfl
              | some q => simp
            · refine (((HC3.out.set (k * 3) rk).set (k * 3 + 1) ra).set (k * 3 + 2) rb).congr fun j hj => ?_
              rw [cellR_snoc, HL.out]
        · obtain rfl : k = n := by omega
          obtain ⟨⟨A, c, rfl, hcap, -⟩, hml, -⟩ := HM.out
          have hend : readN L = if M = [] then some done else none := by
            rw [HRD.out, HG.out, Nat.sub_self, getRecs_zero]
            simp
          have HEND := Lib.hid hend
          have hml' : M.length ≤ 2 ^ 63 - 1 := by unfold maxLen at hml; omega
          clear hend hml
          by_cases hme : M = []
          · subst hme
            have hr : readN L = some done := by rw [HEND.out, if_pos rfl]
            have HR := Lib.hid (readN_yes hr)
            clear hr
            go_wp2
            go_ret2
            refine ⟨_, ret_two rfl (bool_eq HR.out.1.symm), ?_, HK.out⟩
            rw [HR.out.2]
            have ho := CellsT.own (B := w.heap.size) (n := k) (k := 3) (xs := recVs done) ⟨_, HC.out, fun j hj => recVs_get (by rw [HL.out]; exact hj)⟩ (by simp [recVs, flat_length, HL.out]) hg (by unfold maxLen; omega)
            have hl := HL.out
            show World.ownsRow _ _ _ _ _ done.length _
            rw [hl]
            exact ho
          · have hpos : 0 < M.length := by
              cases M with
              | nil => exact absurd rfl hme
              | cons a b => simp
            have hr : readN L = none := by rw [HEND.out, if_neg hme]
            have HR := Lib.hid (readN_no hr)
            clear hr hme
            go_wp2
            go_ret2
            exact ⟨_, ret_two rfl (bool_eq HR.out.1.symm), by rw [HR.out.2]; exact OR.empty HK.out.size, HK.out.alloc HK.out.size _⟩
end Go.Proofs.YtkefbmbjkijilaaGreatDoor
/- BgS -/
set_option linter.unusedVariables false
namespace Go.Proofs.YtkefbmbjkijilaaGreatDoor
open Go.RowKit

theorem info_i64B : (Tryz.prog.info? 2).map (fun i => (i.zero, i.size, i.bytes)) = some (some (.int .i64 0), 1, 8) := by kernel_rfl
def toI (ns : List Nat) : List Int := ns.map fun n : Nat => (n : Int)
theorem toI_len (ns : List Nat) : (toI ns).length = ns.length := by simp [toI]
theorem toI_snoc (ns : List Nat) (n : Nat) : toI (ns ++ [n]) = toI ns ++ [(n : Int)] := by simp [toI]
/-- A row of whole numbers of the call's own. -/
def OL (w : World) (B : Nat) (v : Value) (l : List Int) : Prop := w.ownsRow B 2 1 v l.length (l.map (Value.int .i64))
theorem OL.empty {w : World} {B : Nat} (hB : B ≤ w.heap.size) : OL (w.alloc (.cells #[] 2)) B (.slice (some ⟨w.heap.size, 0, none⟩) 0 0) [] := by
  have := World.ownsRow_made (base := w.heap.size) (e := 2) (size := 1) w #[] 0 (by simp) (Nat.zero_le _) rfl
  exact ownsRow_base (by simpa using this) hB
theorem OL.push {w' : World} {B : Nat} {v' : Value} {l : List Int} (a : Int) (h' : w'.ownsRow B 2 1 v' (l.length + 1) (l.map (Value.int .i64) ++ [.int .i64 a])) : OL w' B v' (l ++ [a]) := by
  unfold OL
  rw [List.length_append, List.map_append]
  exact h'
theorem OL.lt {w : World} {B : Nat} {v : Value} {l : List Int} (h : OL w B v l) {r : Nat} (hr : v.ownBlock = some r) : B ≤ r ∧ r < w.heap.size := World.ownsRow.lt h r hr
theorem OR.push {w' : World} {B : Nat} {v' : Value} {l : List RecD} (r : RecD) (h' : w'.ownsRow B 96 3 v' (l.length + 1) (recVs l ++ [.int .i64 r.k, .int .i64 r.a, .int .i64 r.b])) : OR w' B v' (l ++ [r]) := by
  unfold OR
  rw [List.length_append]
  have : recVs (l ++ [r]) = recVs l ++ [.int .i64 r.k, .int .i64 r.a, .int .i64 r.b] := by simp [recVs, flat]
  rw [this]
  exact h'

theorem num_lt4 {M R : List Nat} {x : Nat} (h : num (128 ^ 4) M = some (x, R)) : x < 268435456 := Nat.lt_of_lt_of_eq (num_some.1 h).2 (by decide)

set_option maxRecDepth 100000 in
set_option maxHeartbeats 4000000 in
theorem specReadRecs_any (v : Value) (L : List Nat) (w : World) (h : Bt w w.heap.size v L) :
    Calls Tryz.prog 67 #[v] w (Read L w) := by
  have H := Lib.hid h
  obtain ⟨⟨A, c, rfl, hcap, -⟩, hl, -⟩ := h
  have hl' : L.length ≤ 2 ^ 63 - 1 := by unfold maxLen at hl; omega
  clear hl
  obtain ⟨i0, hi, hz0, hz1, hz2⟩ := info_parts info_rec
  have HI := Lib.hid hi
  have HZ0 := Lib.hid hz0
  have HZ1 := Lib.hid hz1
  have HZ2 := Lib.hid hz2
  clear hi hz0 hz1 hz2
  obtain ⟨i1, hi, hz0, hz1, hz2⟩ := info_parts info_i64B
  have GI := Lib.hid hi
  have GZ0 := Lib.hid hz0
  have GZ1 := Lib.hid hz1
  have GZ2 := Lib.hid hz2
  clear hi hz0 hz1 hz2
  go_enter Tryz.func67, Tryz.ntmps67
  go_wp2_with fail
  have KA := (Below.refl w.heap.size w).alloc (Nat.le_refl _) (.cells #[] 96)
  have OA : OR (w.alloc (.cells #[] 96)) w.heap.size (.slice (some ⟨w.heap.size, 0, none⟩) 0 0) [] := OR.empty (Nat.le_refl _)
  have HA := Lib.hid ((H.out.below KA (Nat.le_refl _)).more KA.size)
  have HKA := Lib.hid KA
  have HOA := Lib.hid OA
  clear KA OA
  refine (get_any _ L 0 _ HA.out (Nat.zero_le _)).mono ?_
  rintro e w1 ⟨rfl, hor⟩
  rw [List.drop_zero] at hor
  rcases hor with ⟨n, p0, rfl, hp0, hnum⟩ | ⟨rfl, hnum⟩
  · have hrd := readN_num (m := 128 ^ 4) (by decide) L
    rw [hnum] at hrd
    have HRD := Lib.hid hrd
    clear hnum hrd
    by_cases h80 : 80 < n
    · have hno : readN L = none := by rw [HRD.out]; simp [h80]
      have HNO := Lib.hid (readN_no hno)
      clear hno
      go_wp2
      go_ret2
      exact ⟨_, ret_two rfl (bool_eq HNO.out.1.symm), by rw [HNO.out.2]; exact HOA.out, HKA.out⟩
    · have hrd : readN L = (getRecs n (L.drop p0)).bind fun q => if q.2 = [] then some q.1 else none := by rw [HRD.out]; simp [h80]
      have HRD := Lib.hid hrd
      clear hrd
      generalize w.alloc (.cells #[] 96) = w1 at HA HKA HOA ⊢
      have hn80 : n ≤ 80 := by omega
      clear h80
      go_wp2_with fail
      go_loopw [5, 6, 7] (fun s5 s6 s7 wr => ∃ (m p : Nat) (done : List RecD), m ≤ n ∧ s5 = .int .i64 m ∧ s6 = .int .i64 p ∧ p ≤ L.length ∧ done.length + m = n ∧ getRecs n (L.drop p0) = (getRecs m (L.drop p)).map (fun q => (done ++ q.1, q.2)) ∧
        OR wr w1.heap.size s7 done ∧ Below w1.heap.size w1 wr) (fun s5 _ _ _ => (intOf s5).toNat)
      case atStart => exact ⟨n, p0, [], Nat.le_refl _, rfl, rfl, hp0, by simp, by simp, OR.empty (Nat.le_refl _), (Below.refl _ _).alloc (Nat.le_refl _) _⟩
      case round =>
        obtain ⟨m, p, done, hm, rfl, rfl, hp, hdl, hget, O, K⟩ := hrel
        have HG := Lib.hid hget
        have HO := Lib.hid O
        have HK := Lib.hid K
        have HDL := Lib.hid hdl
        clear hget O K hdl
        by_cases hpos : 0 < m
        · have HMM : Hid (m = (m - 1) + 1) := Lib.hid (by omega)
          go_wp2_with fail
          have HA2 := Lib.hid ((HA.out.below HK.out (Nat.le_refl _)).more HK.out.size)
          have HN2 : Hid (∀ {x}, (getRec (L.drop p) = none) → x = none → readN L = x) := Lib.hid fun h1 h2 => by
            rw [HRD.out, HG.out, HMM.out, getRecs_succ, h1, h2]; rfl
          have hdm := HDL.out
          go_loopw [6, 8, 9] (fun s6 s8 s9 wr2 => ∃ (k q : Nat) (ns : List Nat), k ≤ 3 ∧ s9 = .int .i64 k ∧ s6 = .int .i64 q ∧ q ≤ L.length ∧ nums (128 ^ 4) k (L.drop p) = some (ns, L.drop q) ∧
            OL wr2 wr.heap.size s8 (toI ns) ∧ Below wr.heap.size wr wr2) (fun _ _ s9 _ => 3 - (intOf s9).toNat)
          case atStart => exact ⟨0, p, [], by omega, rfl, rfl, hp, rfl, OL.empty (Nat.le_refl _), (Below.refl _ _).alloc (Nat.le_refl _) _⟩
          case round =>
            obtain ⟨k, q, ns, hk, rfl, rfl, hq, hns, O2, K2⟩ := hrel
            have HNS := Lib.hid hns
            have hln := nums_len hns
            have HLN := Lib.hid hln
            have HO2 := Lib.hid O2
            have HK2 := Lib.hid K2
            have hbt := Lib.hid ((HA2.out.below K2 (Nat.le_refl _)).more K2.size)
            clear hns hln O2 K2
            by_cases hlt : k < 3
            · go_wp2_with fail
              refine (get_any _ L q _ hbt.out hq).mono ?_
              rintro e w3 ⟨rfl, hor⟩
              rcases hor with ⟨x, q2, rfl, hq2, hnum⟩ | ⟨rfl, hnum⟩
              · have HNUM := Lib.hid hnum
                clear hnum
                have hx := num_lt4 HNUM.out
                have h63 : Hid ((toI ns).length + 1 ≤ maxLen) := Lib.hid (by rw [toI_len, HLN.out]; unfold maxLen; omega)
                have hby : Hid (((toI ns).length + 1) * 8 ≤ 140737488355328) := Lib.hid (by rw [toI_len, HLN.out]; omega)
                have hs2 := HK2.out.size
                go_wp2_with ((at_builtin; refine wpList_append_own _ rfl _ _ 23 rfl _ 2 i1 (.int .i64 0) 1 8 Tryz.underlying23 GI.out GZ0.out GZ1.out GZ2.out rfl (by decide) _ _ _ rfl (ownsRow_below HO2.out ((Below.refl _ _).alloc (Nat.le_refl _) _)) ⟨wr.heap.size, 0, none⟩ 1 1 [.int .i64 (x : Int)] rfl rfl (cell_one_new _ _ _) (fun x hx => by simp at hx; subst hx; rfl) h63.out hby.out (by simp; omega) ?_; intro v' w4 hown' hgrow hnil))
                refine ⟨⟨k + 1, q2, ns ++ [x], by omega, by go_num, rfl, hq2, nums_step HNS.out HNUM.out, by rw [toI_snoc]; exact OL.push _ hown', (HK2.out.alloc hs2 _).grown hgrow (by simp; omega) fun r hr => (HO2.out.lt hr).1⟩, by simp [intOf]; omega⟩
              · have hno : getRec (L.drop p) = none := by
                  rw [getRec_nums (m := 128 ^ 4) (by decide), nums_none (k := k + 1) (nums_stop HNS.out hnum) (by omega)]
                  rfl
                have HNO := Lib.hid (readN_no (HN2.out hno rfl))
                clear hno hnum
                go_wp2
                go_ret2
                have KK := HK.out.trans (HK2.out.mono HK.out.size)
                exact ⟨_, ret_two rfl (bool_eq HNO.out.1.symm), by rw [HNO.out.2]; exact HOA.out.below KK, HKA.out.trans (KK.mono HKA.out.size)⟩
            · obtain rfl : k = 3 := by omega
              obtain ⟨n0, n1, n2, rfl⟩ : ∃ a b c, ns = [a, b, c] := by
                have := HLN.out
                match ns, this with
                | [a, b, c], _ => exact ⟨a, b, c, rfl⟩
              have HG2 : Hid (getRec (L.drop p) = if recOkB ⟨n0, n1, n2⟩ then some (⟨n0, n1, n2⟩, L.drop q) else none) := Lib.hid (by
                rw [getRec_nums (m := 128 ^ 4) (by decide), HNS.out]; rfl)
              obtain ⟨A1, c1, g1, rfl, hA1, hB1, hz1, R1⟩ := open_list HO2.out
              obtain rfl := hA1 (by simp [toI])
              have hg1 := hz1 (by simp [toI])
              have q0 : wr.cell? ⟨g1, 0, none⟩ = some (.int .i64 n0) := (R1 0 (by simp [toI])).1
              have q1 : wr.cell? ⟨g1, 1, none⟩ = some (.int .i64 n1) := (R1 1 (by simp [toI])).1
              have q2 : wr.cell? ⟨g1, 2, none⟩ = some (.int .i64 n2) := (R1 2 (by simp [toI])).1
              have e3 : (toI [n0, n1, n2]).length = 3 := rfl
              rw [e3]
              have HKK := Lib.hid (HK.out.trans (HK2.out.mono HK.out.size))
              have HOO := Lib.hid (HO.out.below HK2.out)
              clear R1 e3 hA1 hz1 HO2 HNS HLN
              go_wp2_with fail
              have q0 : wr.drew.cell? ⟨g1, 0, none⟩ = some (.int .i64 n0) := q0
              have q1 : wr.drew.cell? ⟨g1, 1, none⟩ = some (.int .i64 n1) := q1
              have q2 : wr.drew.cell? ⟨g1, 2, none⟩ = some (.int .i64 n2) := q2
              go_region
              have Y := (Own.box2 HKK.out #[.int .i64 n0, .int .i64 n1, .int .i64 n2] 96).drew
              have HOd : Hid (OR ((wr.alloc (.cells #[.int .i64 n0, .int .i64 n1, .int .i64 n2] 96)).drew) w1.heap.size u7 done) := Lib.hid ((HOO.out.below ((Below.refl _ _).alloc (Nat.le_refl _) _)).below (Below.refl _ _).drew)
              clear q0 q1 q2 HKK HOO hbt HK2 HO HK
              generalize (wr.alloc (.cells #[.int .i64 n0, .int .i64 n1, .int .i64 n2] 96)).drew = W at Y HOd ⊢
              generalize wr.heap.size = g at Y ⊢
              have hC := Y.C
              go_wp2_with fail
              refine (specRecOk_any ⟨n0, n1, n2⟩ W).mono ?_
              rintro e w5 ⟨rfl, hb5⟩
              have Y5 := Y.step hb5
              have HO5 := Lib.hid (HOd.out.below hb5)
              have hC := Y5.C
              clear Y hb5 HOd
              cases hok : recOkB ⟨n0, n1, n2⟩
              · have hno : getRec (L.drop p) = none := by rw [HG2.out, hok]; rfl
                have HNO := Lib.hid (readN_no (HN2.out hno rfl))
                clear hno hok
                have HK5 := Lib.hid Y5.K
                clear Y5
                go_wp2
                go_ret2
                exact ⟨_, ret_two rfl (bool_eq HNO.out.1.symm), by rw [HNO.out.2]; exact HOA.out.below HK5.out, HKA.out.trans (HK5.out.mono HKA.out.size)⟩
              · have hyes : getRec (L.drop p) = some (⟨n0, n1, n2⟩, L.drop q) := by rw [HG2.out, hok]; rfl
                have HYES := Lib.hid hyes
                clear hyes hok
                have HK5 := Lib.hid Y5.K
                have h63 : Hid (done.length + 1 ≤ maxLen) := Lib.hid (by have := HDL.out; unfold maxLen; omega)
                have hby : Hid ((done.length + 1) * 24 ≤ 140737488355328) := Lib.hid (by have := HDL.out; omega)
                have hs5 := HK5.out.size
                clear Y5
                go_wp2_with ((at_builtin; refine wpList_append_own _ rfl _ _ 93 rfl w1.heap.size 96 i0 (.agg #[.int .i64 0, .int .i64 0, .int .i64 0]) 3 24 Tryz.underlying93 HI.out HZ0.out HZ1.out HZ2.out rfl (by decide) _ _ _ rfl (ownsRow_below HO5.out ((Below.refl _ _).alloc (Nat.le_refl _) _)) ⟨w5.heap.size, 0, none⟩ 1 1 [.int .i64 n0, .int .i64 n1, .int .i64 n2] rfl rfl (World.news_of_block (cs := #[.int .i64 n0, .int .i64 n1, .int .i64 n2]) (heap_alloc_new w5 _)) (by simp [Value.oneCell']) h63.out hby.out (by simp; omega) ?_; intro v' w6 hown' hgrow hnil))
                refine ⟨⟨m - 1, q, done ++ [⟨n0, n1, n2⟩], by omega, int_eq (by omega), rfl, hq, ?_, ?_, OR.push ⟨n0, n1, n2⟩ hown', (HK5.out.alloc hs5 _).grown hgrow (by simp; omega) fun r hr => (HO5.out.lt hr).1⟩, by simp [intOf]; omega⟩
                · have := HDL.out
                  rw [List.length_append, List.length_singleton]
                  omega
                · rw [HG.out, show getRecs m (L.drop p) = getRecs ((m - 1) + 1) (L.drop p) by rw [← HMM.out], getRecs_succ, HYES.out, Option.bind_some]
                  dsimp only
                  cases getRecs (m - 1) (L.drop q) with
                  | none => rfl
                  | some q => simp
        · obtain rfl : m = 0 := by omega
          have hend : readN L = if L.drop p = [] then some done else none := by
            rw [HRD.out, HG.out, getRecs_zero]
            simp
          have HEND := Lib.hid hend
          clear hend
          by_cases hme : p = L.length
          · have hr : readN L = some done := by rw [HEND.out, if_pos (by rw [hme]; simp)]
            have HR := Lib.hid (readN_yes hr)
            clear hr
            subst hme
            go_wp2
            go_ret2
            exact ⟨_, ret_two rfl (bool_eq HR.out.1.symm), by rw [HR.out.2]; exact HO.out.base HKA.out.size, HKA.out.trans (HK.out.mono HKA.out.size)⟩
          · have hr : readN L = none := by rw [HEND.out, if_neg (by intro e; have := List.drop_eq_nil_iff.1 e; omega)]
            have HR := Lib.hid (readN_no hr)
            have hne : ((p : Int) == (L.length : Int)) = false := by simp; omega
            have hne2 : ¬ (p : Int) = (L.length : Int) := by omega
            clear hr hme
            go_wp2
            go_ret2
            exact ⟨_, ret_two rfl (bool_eq HR.out.1.symm), by rw [HR.out.2]; exact HOA.out.below HK.out, HKA.out.trans (HK.out.mono HKA.out.size)⟩
  · have hno : readN L = none := by rw [readN_num (m := 128 ^ 4) (by decide), hnum]; rfl
    have HNO := Lib.hid (readN_no hno)
    clear hno hnum
    go_wp2
    go_ret2
    exact ⟨_, ret_two rfl (bool_eq HNO.out.1.symm), by rw [HNO.out.2]; exact HOA.out, HKA.out⟩
end Go.Proofs.YtkefbmbjkijilaaGreatDoor
/- Bh -/
set_option linter.unusedVariables false
namespace Go.Proofs.YtkefbmbjkijilaaGreatDoor
open Go.RowKit

/-- Block g holds bytes, x 0, x 1, .. x (N-1), all writable. -/
def RowU (w : World) (g N : Nat) (x : Nat → Int) : Prop := ∀ j, j < N → w.cell? ⟨g, j, none⟩ = some (.int .u8 (x j)) ∧ w.frozen? ⟨g, j, none⟩ = false
theorem RowU.set {w : World} {g N : Nat} {x : Nat → Int} (h : RowU w g N x) {i : Nat} (v : Int) : RowU (w.setCell ⟨g, i, none⟩ (.int .u8 v)) g N (fun j => if j = i then v else x j) := fun j hj => by
  refine ⟨?_, by rw [World.frozen?_setCell]; exact (h j hj).2⟩
  by_cases e : j = i
  · subst e
    show _ = some (Value.int _ (if j = j then v else x j))
    rw [if_pos rfl]
    exact World.cell?_setCell_same _ _ _ (h j hj).1
  · show _ = some (Value.int _ (if j = i then v else x j))
    rw [if_neg e, World.cell?_setCell_other _ _ _ _ (fun he => e (by injection he with _ h2 _; exact h2.symm))]
    exact (h j hj).1
theorem RowU.below {w w' : World} {B g N : Nat} {x : Nat → Int} (h : RowU w g N x) (hb : Below B w w') (hg : g < B) : RowU w' g N x := fun j hj =>
  ⟨(hb.cell (p := ⟨g, j, none⟩) hg).trans (h j hj).1, (hb.frozen (p := ⟨g, j, none⟩) hg).trans (h j hj).2⟩
theorem RowU.congr {w : World} {g N : Nat} {x y : Nat → Int} (h : RowU w g N x) (e : ∀ j, j < N → x j = y j) : RowU w g N y := fun j hj => by rw [← e j hj]; exact h j hj
theorem RowU.go {w w' : World} {g n : Nat} {x : Nat → Int} (R : RowU w g n x) (hg : 0 < n → g < w.heap.size) (hb : Below w.heap.size w w') : RowU w' g n x := fun j hj => R.below hb (hg (by omega)) j hj

theorem Made.rt {w w' : World} {n : Nat} {x : Nat → Int} {e : Ending} (h : Made w (n * 3) n x e w') (hn : n ≤ maxLen) : ∃ g, e = .returned (.slice (some ⟨g, 0, none⟩) n n) ∧ w.heap.size ≤ g ∧ g < w'.heap.size ∧ RowF w' g (n * 3) x ∧
    Rt w' w'.heap.size (.slice (some ⟨g, 0, none⟩) n n) (recsFrom n x) ∧ Below w.heap.size w w' := by
  obtain ⟨g, he, hg, hlt, R, K⟩ := h
  refine ⟨g, he, hg, hlt, R, ⟨⟨some ⟨g, 0, none⟩, n, by rw [recsFrom_length], ?_⟩, by rw [recsFrom_length]; exact hn⟩, K⟩
  rw [recsFrom_length]
  exact fun _ => ⟨g, 0, rfl, hlt, fun j hj => by rw [Nat.zero_add, cellR_from hj]; exact (R j hj).1⟩

set_option maxRecDepth 100000 in
set_option maxHeartbeats 1000000 in
theorem eqByteS_same (v v' : Value) (L : List Nat) (w : World) (h : Bt w w.heap.size v L) (h' : Bt w w.heap.size v' L) :
    Calls Tryz.prog 22 #[v, v'] w fun e w' => e = .returned (.bool true) ∧ Below w.heap.size w w' := by
  have H := Lib.hid h
  have H' := Lib.hid h'
  obtain ⟨⟨A, c, rfl, -, -⟩, hl, -⟩ := h
  obtain ⟨⟨A', c', rfl, -, -⟩, -, -⟩ := h'
  have hl' : L.length ≤ 2 ^ 63 - 1 := by unfold maxLen at hl; omega
  clear hl
  generalize hq : L.length = n at *
  have HQ := Lib.hid hq
  clear hq
  go_enter Tryz.func22, Tryz.ntmps22
  go_wp2
  go_loopw [5] (fun i wr => ∃ k : Nat, k ≤ n ∧ i = .int .i64 k ∧ Below w.heap.size w wr) (fun i _ => n - (intOf i).toNat)
  case atStart => exact ⟨0, Nat.zero_le _, rfl, Below.refl _ _⟩
  case round =>
    obtain ⟨k, hk, rfl, K⟩ := hrel
    by_cases hlt : k < n
    · obtain ⟨b, off, rfl, hb, q0⟩ := (H.out.below K (Nat.le_refl _)).cell (k := k) (by rw [HQ.out]; exact hlt)
      obtain ⟨b', off', rfl, hb', r0⟩ := (H'.out.below K (Nat.le_refl _)).cell (k := k) (by rw [HQ.out]; exact hlt)
      generalize L.getD k 0 = z at *
      go_wp2_with fail
      go_quiet (fail)
      go_wp2
      exact ⟨⟨k + 1, by omega, by go_num, below_drewN K _⟩, by simp [intOf]; omega⟩
    · obtain rfl : k = n := by omega
      go_wp2
      go_ret
      exact ⟨rfl, K⟩
/-- What a mark leaves in a byte. -/
def markU (k0 : Int) (j : Nat) : Int := IntKind.u8.wrap (k0 + j)
set_option maxHeartbeats 1000000 in
theorem markByteS_any (A : Option Addr) (n c g : Nat) (k0 : Int) (x : Nat → Int) (w : World) (hA : 0 < n → A = some ⟨g, 0, none⟩) (R : RowU w g n x) (hn : n ≤ 1048576) (h0 : 0 ≤ k0) (h1 : k0 ≤ 8388608) :
    Calls Tryz.prog 23 #[.slice A n c, .int .i64 k0] w fun e w' => e = .returned (.int .i64 (k0 + n)) ∧ RowU w' g n (markU k0) ∧ Keeps (· = g) w w' := by
  have HN := Lib.hid hn
  have hn' : n ≤ 2 ^ 63 - 1 := by omega
  have HA := Lib.hid hA
  clear hn hA
  go_enter Tryz.func23, Tryz.ntmps23
  go_wp2
  go_loopw [1, 5] (fun kk i wr => ∃ m : Nat, m ≤ n ∧ i = .int .i64 m ∧ kk = .int .i64 (k0 + m) ∧ RowU wr g n (fun j => if j < m then markU k0 j else x j) ∧ Keeps (· = g) w wr) (fun _ i _ => n - (intOf i).toNat)
  case atStart => exact ⟨0, Nat.zero_le _, rfl, by simp, R.congr fun j _ => by simp, Keeps.refl _ _⟩
  case round =>
    obtain ⟨m, hm, rfl, rfl, Y, K⟩ := hrel
    by_cases hlt : m < n
    · obtain rfl := HA.out (by omega)
      obtain ⟨t0, f0⟩ := Y m hlt
      have hb := HN.out
      go_wp2
      refine ⟨⟨m + 1, by omega, by go_num, by go_num, ?_, K.set rfl _⟩, by simp [intOf]; omega⟩
      refine (Y.set (i := m) (markU k0 m)).congr fun j hj => ?_
      by_cases e : j = m
      · subst e; simp
      · simp only [if_neg e]
        by_cases e' : j < m
        · rw [if_pos e', if_pos (by omega)]
        · rw [if_neg e', if_neg (by omega)]
    · obtain rfl : m = n := by omega
      go_wp2
      go_ret
      exact ⟨rfl, Y.congr fun j hj => if_pos hj, K⟩
/-- A copy of bytes, made anew. -/
def MadeB (w : World) (L : List Nat) (e : Ending) (w' : World) : Prop :=
  ∃ g, e = .returned (.slice (some ⟨g, 0, none⟩) L.length L.length) ∧ w.heap.size ≤ g ∧ g < w'.heap.size ∧ RowU w' g L.length (fun j => (L.getD j 0 : Nat)) ∧ Bt w' w'.heap.size (.slice (some ⟨g, 0, none⟩) L.length L.length) L ∧ Below w.heap.size w w'
theorem made_rowU {w : World} {base e n : Nat} {g : Nat} (h : w.ownsRow base e 1 (.slice (some ⟨g, 0, none⟩) n n) n (madeCells #[.int .u8 0] (n * 1)).toList) : RowU w g n (fun _ => 0) := fun j hj => by
  refine ⟨?_, ?_⟩
  · have := h.cells (g := g) rfl j (.int .u8 0) (by simp [madeCells, hj, Nat.mod_one])
    rwa [add_zero_block] at this
  · rcases h.2 with ⟨h1, _⟩ | ⟨g', cap, cur, h1, _, h2, _⟩
    · cases h1
    · injection h1 with h1 _ _
      injection h1 with h1
      injection h1 with h1 _ _
      subst h1
      exact frozen_of_row _ _ _ _ _ h2
set_option maxHeartbeats 1000000 in
theorem toByteS_any (v : Value) (L : List Nat) (w : World) (h : Bt w w.heap.size v L) (hn : L.length ≤ 1048576) :
    Calls Tryz.prog 20 #[v] w (MadeB w L) := by
  have H := Lib.hid h
  obtain ⟨⟨A, c, rfl, -, -⟩, -, hs⟩ := h
  have HS := Lib.hid hs
  clear hs
  obtain ⟨i0, hi, hz0, hz1, hz2⟩ := info_parts info_u8
  generalize hq : L.length = n at *
  have HQ := Lib.hid hq
  have HN := Lib.hid hn
  have hn' : n ≤ 2 ^ 63 - 1 := by omega
  clear hn hq
  go_enter Tryz.func20, Tryz.ntmps20
  go_wp2_with (at_make; refine wpList_make_full _ rfl _ _ 33 rfl w.heap.size 5 i0 (.int .u8 0) 1 Tryz.underlying33 hi hz0 hz1 _ _ _ _ n rfl rfl rfl rfl ?b2 ?b3 (Nat.le_refl _) ?_)
  case b2 => have := HN.out; rw [hz2]; omega
  case b3 => have := HN.out; unfold maxLen; omega
  intro w1 hown hgrow
  have K1 : Below w.heap.size w w1 := (Below.refl _ _).grown hgrow (Nat.le_refl _) (fun k hk => by cases hk)
  have hz1 : w.heap.size < w1.heap.size := (hown.lt _ rfl).2
  have R1 := made_rowU (by rw [Nat.mul_one]; exact hown)
  clear hown hgrow hz0 hz2 hi
  go_wp2
  go_loopw [4] (fun i wr => ∃ k : Nat, k ≤ n ∧ i = .int .i64 k ∧ Below w.heap.size w wr ∧ w.heap.size < wr.heap.size ∧ RowU wr w.heap.size n (fun j => if j < k then (L.getD j 0 : Nat) else 0)) (fun i _ => n - (intOf i).toNat)
  case atStart => exact ⟨0, Nat.zero_le _, rfl, K1, hz1, R1.congr fun j _ => by simp⟩
  case round =>
    clear K1 hz1 R1
    obtain ⟨k, hk, rfl, K, hz, R⟩ := hrel
    have HR := Lib.hid R
    by_cases hlt : k < n
    · obtain ⟨b, off, rfl, hb, q0⟩ := (H.out.below K (Nat.le_refl _)).cell (k := k) (by rw [HQ.out]; exact hlt)
      obtain ⟨t0, f0⟩ := R k hlt
      clear R
      generalize hzz : L.getD k 0 = z at *
      have HZ := Lib.hid hzz
      clear hzz
      go_wp2
      refine ⟨⟨k + 1, by omega, by go_num, K.setCell (Nat.le_refl _) _, by simpa [World.setCell] using hz, ?_⟩, by simp [intOf]; omega⟩
      refine (HR.out.set (i := k) (z : Int)).congr fun j hj => ?_
      by_cases e : j = k
      · subst e; rw [if_pos rfl, if_pos (by omega), HZ.out]
      · rw [if_neg e]
        by_cases e' : j < k
        · rw [if_pos e', if_pos (by omega)]
        · rw [if_neg e', if_neg (by omega)]
    · obtain rfl : k = n := by omega
      have R2 : RowU wr w.heap.size L.length (fun j => (L.getD j 0 : Nat)) := by rw [HQ.out]; exact HR.out.congr fun j hj => if_pos hj
      have HR2 := Lib.hid R2
      have hnm : k ≤ maxLen := by unfold maxLen; omega
      clear R R2 HR
      go_wp2
      go_ret
      refine ⟨w.heap.size, by rw [HQ.out]; rfl, Nat.le_refl _, hz, HR2.out, ⟨⟨_, L.length, rfl, Nat.le_refl _, fun _ => ⟨w.heap.size, 0, rfl, hz, fun j hj => by rw [Nat.zero_add]; exact (HR2.out j hj).1⟩⟩, by rw [HQ.out]; exact hnm, HS.out⟩, K⟩
end Go.Proofs.YtkefbmbjkijilaaGreatDoor
/- Sa -/
set_option linter.unusedVariables false
namespace Go.Proofs.YtkefbmbjkijilaaGreatDoor
open Go.RowKit
/-- Block g holds n whole numbers, as x tells, and no more. -/
structure Cells (w : World) (g n : Nat) (x : Nat → Int) : Prop where
  it : ∃ cur, w.heap[g]? = some (.cells cur 2 (0, 0)) ∧ cur.size = n ∧ ∀ j, j < n → cur[j]? = some (.int .i64 (x j))
theorem Cells.lt {w : World} {g n : Nat} {x : Nat → Int} (h : Cells w g n x) : g < w.heap.size := by
  obtain ⟨cur, hh, _⟩ := h
  exact (Array.getElem?_eq_some_iff.1 hh).1
theorem Cells.at_ {w : World} {g n : Nat} {x : Nat → Int} (h : Cells w g n x) {j : Nat} (hj : j < n) : w.cell? ⟨g, j, none⟩ = some (.int .i64 (x j)) ∧ w.frozen? ⟨g, j, none⟩ = false := by
  obtain ⟨cur, hh, _, hc⟩ := h
  exact ⟨(cell_of_row _ _ _ _ _ _ hh).trans (hc j hj), frozen_of_row _ _ _ _ _ hh⟩
theorem Cells.set {w : World} {g n : Nat} {x : Nat → Int} (h : Cells w g n x) (i : Nat) (v : Int) : Cells (w.setCell ⟨g, i, none⟩ (.int .i64 v)) g n (fun j => if j = i then v else x j) := by
  obtain ⟨cur, hh, hs, hc⟩ := h
  refine ⟨cur.setIfInBounds i (.int .i64 v), ?_, by simp [hs], fun j hj => ?_⟩
  · rw [Go.Sort.setCell_eq]
    simp [Go.Sort.mapBlock, Array.getElem?_modify, hh, Go.Sort.onCells]
  · by_cases e : j = i
    · subst e
      simp [hs, hj]
    · rw [Array.getElem?_setIfInBounds_ne (fun he => e he.symm), hc j hj, if_neg e]
theorem Cells.congr {w : World} {g n : Nat} {x y : Nat → Int} (h : Cells w g n x) (e : ∀ j, j < n → x j = y j) : Cells w g n y := by
  obtain ⟨cur, hh, hs, hc⟩ := h
  exact ⟨cur, hh, hs, fun j hj => by rw [hc j hj, e j hj]⟩
theorem Cells.drewN {w : World} {g n : Nat} {x : Nat → Int} (h : Cells w g n x) (q : Nat) : Cells (w.drewN q) g n x := ⟨h.it⟩
/-- The same numbers, in whichever order and however often. -/
structure Same (n : Nat) (x y : Nat → Int) : Prop where
  there : ∀ j, j < n → ∃ k, k < n ∧ y k = x j
  back : ∀ k, k < n → ∃ j, j < n ∧ y k = x j
theorem Same.refl (n : Nat) (x : Nat → Int) : Same n x x := ⟨fun j hj => ⟨j, hj, rfl⟩, fun j hj => ⟨j, hj, rfl⟩⟩
/-- Up to m all rise (or stay), but for what lies at place j, which may be too small for its place. -/
def RiseBut (y : Nat → Int) (m j : Nat) : Prop := ∀ a b, a < b → b < m → b ≠ j → y a ≤ y b
def Rises (y : Nat → Int) (m : Nat) : Prop := ∀ a b, a < b → b < m → y a ≤ y b
theorem Rises.but {y : Nat → Int} {m : Nat} (h : Rises y m) : RiseBut y (m + 1) m := fun a b h1 h2 h3 => h a b h1 (by omega)
theorem RiseBut.stop {y : Nat → Int} {m j : Nat} (h : RiseBut y m j) (hs : j = 0 ∨ y (j - 1) ≤ y j) : Rises y m := fun a b h1 h2 => by
  by_cases e : b = j
  · subst e
    have h3 := hs.resolve_left (by omega)
    by_cases e2 : a = b - 1
    · subst e2; exact h3
    · exact Int.le_trans (h a (b - 1) (by omega) (by omega) (by omega)) h3
  · exact h a b h1 h2 e
end Go.Proofs.YtkefbmbjkijilaaGreatDoor
/- Sb -/
set_option linter.unusedVariables false
namespace Go.Proofs.YtkefbmbjkijilaaGreatDoor
open Go.RowKit

/-- Of the first m those that are not as the one ahead of them. -/
def dd (x : Nat → Int) : Nat → List Int
  | 0 => []
  | m + 1 => if m = 0 ∨ x m ≠ x (m - 1) then dd x m ++ [x m] else dd x m
theorem dd_new {x : Nat → Int} {m : Nat} (h : m = 0 ∨ x m ≠ x (m - 1)) : dd x (m + 1) = dd x m ++ [x m] := if_pos h
theorem dd_old {x : Nat → Int} {m : Nat} (hm : 0 < m) (h : x m = x (m - 1)) : dd x (m + 1) = dd x m := if_neg (by omega)
/-- Where no two neighbours are alike all stay. -/
theorem dd_all {x : Nat → Int} : ∀ {m : Nat}, (∀ j, 0 < j → j < m → x j ≠ x (j - 1)) → (dd x m).length = m ∧ ∀ j, j < m → x j = (dd x m).getD j 0
  | 0, _ => ⟨rfl, fun j hj => by omega⟩
  | m + 1, h => by
    obtain ⟨h1, h2⟩ := dd_all (m := m) fun j h0 hj => h j h0 (by omega)
    have hn : m = 0 ∨ x m ≠ x (m - 1) := by
      by_cases e : m = 0
      · exact .inl e
      · exact .inr (h m (by omega) (by omega))
    rw [dd_new hn]
    refine ⟨by simp [h1], fun j hj => ?_⟩
    by_cases e : j = m
    · subst e
      simp [List.getD, h1]
    · rw [h2 j (by omega)]
      simp [List.getD, List.getElem?_append_left (show j < (dd x m).length by omega)]

/-- Of the first m places' numbers those that stay lie ahead; behind them all is as it was. -/
structure Moved (x y : Nat → Int) (n m k : Nat) : Prop where
  len : (dd x m).length = k
  lt : k < m
  low : ∀ j, j < k → y j = (dd x m).getD j 0
  high : ∀ j, k ≤ j → j < n → y j = x j
theorem Moved.old {x y : Nat → Int} {n m k : Nat} (h : Moved x y n m k) (hm : 0 < m) (e : x m = x (m - 1)) : Moved x y n (m + 1) k := by
  obtain ⟨h1, h2, h3, h4⟩ := h
  exact ⟨by rw [dd_old hm e]; exact h1, by omega, by rw [dd_old hm e]; exact h3, h4⟩
theorem Moved.new {x y : Nat → Int} {n m k : Nat} (h : Moved x y n m k) (e : x m ≠ x (m - 1)) : Moved x (fun j => if j = k then x m else y j) n (m + 1) (k + 1) := by
  obtain ⟨h1, h2, h3, h4⟩ := h
  refine ⟨by rw [dd_new (.inr e)]; simp [h1], by omega, fun j hj => ?_, fun j h5 h6 => ?_⟩
  · rw [dd_new (.inr e)]
    by_cases e2 : j = k
    · rw [if_pos e2, e2]
      simp [List.getD, ← h1]
    · rw [if_neg e2, h3 j (by omega)]
      simp [List.getD, List.getElem?_append_left (show j < (dd x m).length by omega)]
  · rw [if_neg (by omega)]
    exact h4 j (by omega) h6

/-- What Compact leaves. -/
def Compacted (g n : Nat) (x : Nat → Int) (w : World) (e : Ending) (w' : World) : Prop :=
  e = .returned (.slice (some ⟨g, 0, none⟩) (dd x n).length n) ∧ ∃ y, Cells w' g n y ∧ (∀ j, j < (dd x n).length → y j = (dd x n).getD j 0) ∧ Keeps (· = g) w w'
theorem Compacted.same {g n : Nat} {x : Nat → Int} {w w' : World} (h : ∀ j, 0 < j → j < n → x j ≠ x (j - 1)) (hX : Cells w' g n x) (hK : Keeps (· = g) w w') : Compacted g n x w (.returned (.slice (some ⟨g, 0, none⟩) n n)) w' := by
  obtain ⟨h1, h2⟩ := dd_all h
  exact ⟨by rw [h1], x, hX, by rw [h1]; exact h2, hK⟩

end Go.Proofs.YtkefbmbjkijilaaGreatDoor
/- Sc -/
set_option linter.unusedVariables false
namespace Go.Proofs.YtkefbmbjkijilaaGreatDoor
open Go.RowKit

end Go.Proofs.YtkefbmbjkijilaaGreatDoor
/- Sd -/
set_option linter.unusedVariables false
namespace Go.Proofs.YtkefbmbjkijilaaGreatDoor
open Go.RowKit

theorem Cells.owns {w : World} {g n : Nat} {y : Nat → Int} {L : List Int} (h : Cells w g n y) (hn : n ≤ 12) (hl : L.length ≤ n) (hL : ∀ j, j < L.length → y j = L.getD j 0) :
    w.ownsRow g 2 1 (.slice (some ⟨g, 0, none⟩) L.length n) L.length (L.map (Value.int .i64)) := by
  obtain ⟨cur, hh, hs, hc⟩ := h
  refine ⟨by simp, .inr ⟨g, n, cur, rfl, Nat.le_refl _, hh, hl, by unfold maxLen; omega, by omega, ?_⟩⟩
  rw [Nat.mul_one]
  refine List.ext_getElem? fun j => ?_
  by_cases hj : j < L.length
  · rw [List.getElem?_take_of_lt hj, Array.getElem?_toList, hc j (by omega), hL j hj]
    simp [List.getD, hj]
  · rw [List.getElem?_take_eq_none (by omega), List.getElem?_eq_none (by simp; omega)]

end Go.Proofs.YtkefbmbjkijilaaGreatDoor
/- Se -/
set_option linter.unusedVariables false
namespace Go.Proofs.YtkefbmbjkijilaaGreatDoor
open Go.RowKit Go.Sort

/-- Block g, of n whole numbers, is being filled: the first k are as f tells. -/
structure Filling (wr : World) (g n k : Nat) (f : Nat → Int) : Prop where
  it : ∃ cur, wr.heap[g]? = some (.cells cur 2 (0, 0)) ∧ cur.size = n ∧ ∀ j, j < k → cur[j]? = some (.int .i64 (f j))
theorem Filling.lt {wr : World} {g n k : Nat} {f : Nat → Int} (h : Filling wr g n k f) : g < wr.heap.size := by
  obtain ⟨cur, hh, _⟩ := h
  exact (Array.getElem?_eq_some_iff.1 hh).1
theorem Filling.below {wr w' : World} {g n k : Nat} {f : Nat → Int} (h : Filling wr g n k f) (hb : Below wr.heap.size wr w') : Filling w' g n k f := by
  have hl := h.lt
  obtain ⟨cur, hh, r⟩ := h
  exact ⟨cur, (hb.block g hl).trans hh, r⟩
theorem Filling.at_ {wr : World} {g n k i : Nat} {f : Nat → Int} (h : Filling wr g n k f) (hi : i < n) : ∃ v, wr.cell? ⟨g, i, none⟩ = some v ∧ wr.frozen? ⟨g, i, none⟩ = false := by
  obtain ⟨cur, hh, hs, _⟩ := h
  exact ⟨cur[i]'(by omega), (cell_of_row _ _ _ _ _ _ hh).trans (Array.getElem?_eq_getElem (by omega)), frozen_of_row _ _ _ _ _ hh⟩
theorem Filling.set {wr : World} {g n k : Nat} {f : Nat → Int} (h : Filling wr g n k f) (hk : k < n) : Filling (wr.setCell ⟨g, k, none⟩ (.int .i64 (f k))) g n (k + 1) f := by
  obtain ⟨cur, hh, hs, hc⟩ := h
  refine ⟨cur.setIfInBounds k (.int .i64 (f k)), ?_, by simp [hs], fun j hj => ?_⟩
  · rw [setCell_eq]
    simp [mapBlock, Array.getElem?_modify, hh, onCells]
  · by_cases e : j = k
    · subst e
      simp [hs, hk]
    · rw [Array.getElem?_setIfInBounds_ne (fun he => e he.symm)]
      exact hc j (by omega)
end Go.Proofs.YtkefbmbjkijilaaGreatDoor
/- Sf -/
set_option linter.unusedVariables false
namespace Go.Proofs.YtkefbmbjkijilaaGreatDoor
open Go.RowKit

end Go.Proofs.YtkefbmbjkijilaaGreatDoor
/- Lw -/
set_option linter.unusedVariables false
namespace Go.Proofs.YtkefbmbjkijilaaGreatDoor
open Go.RowKit

def argsN (k : Int) : Int := if k = 3 ∨ k = 6 ∨ k = 7 ∨ k = 8 ∨ k = 9 ∨ k = 12 ∨ k = 13 then 1 else if k = 10 then 2 else 0
def orderOkB (k a b : Int) : Bool := inB k 1 13 && inB a 0 1000000 && inB b 0 1000000 && !(decide (argsN k < 1) && a != 0 || decide (argsN k < 2) && b != 0) && (k != 13 || decide (a ≤ 1))
abbrev ordC (k a b : Int) : Array Value := #[.int .i64 k, .int .i64 a, .int .i64 b]

end Go.Proofs.YtkefbmbjkijilaaGreatDoor
/- Zc -/
set_option linter.unusedVariables false
namespace Go.Proofs.YtkefbmbjkijilaaGreatDoor
open Go.RowKit

/-- Whole numbers as cells. -/
def cellsI (m : Nat) (x : Nat → Int) : List Value := (List.range m).map fun j => Value.int .i64 (x j)
theorem cellsI_len (m : Nat) (x : Nat → Int) : (cellsI m x).length = m := by simp [cellsI]
theorem cellsI_at {m j : Nat} (x : Nat → Int) (hj : j < m) : (cellsI m x)[j]? = some (.int .i64 (x j)) := by simp [cellsI, hj]
theorem cellsI_one (m : Nat) (x : Nat → Int) : ∀ u ∈ cellsI m x, u.oneCell' = true := by
  intro u hu
  obtain ⟨b, _, rfl⟩ := List.mem_map.1 hu
  rfl
theorem lk_cells (n : Nat) (x : Nat → Int) : lkCs ((List.range n).map x) = cellsI n x := by simp [lkCs, cellsI, Function.comp_def]
theorem Sl.slv {w : World} {B k n : Nat} {A : Option Addr} {x : Nat → Int} (h : Sl w B k A n x) : SlV w B k A n (cellsI (n * k) x) :=
  ⟨cellsI_len _ _, fun hn => by
    obtain ⟨b, off, e, hb, hc⟩ := h hn
    exact ⟨b, off, e, hb, fun j hj => by rw [hc j hj, cellsI_at x hj]⟩⟩
theorem OI.of_cells {w : World} {B e k n : Nat} {v : Value} {x : Nat → Int} (h : w.ownsRow B e k v n (cellsI (n * k) x)) : OI w B e k v n x := ⟨_, h, fun j hj => cellsI_at x hj⟩
theorem OI.formR {w : World} {B e k n : Nat} {v : Value} {x : Nat → Int} (h : OI w B e k v n x) : ∃ A c, v = .slice A n c ∧ (A = none → c = 0) ∧ Sl w w.heap.size k A n x := by
  obtain ⟨A', c', hv', hs, -⟩ := h.form
  obtain ⟨xs, hown, -⟩ := h
  obtain ⟨A, c, hv, hr, -⟩ := open_rowR hown
  rw [hv] at hv'
  injection hv' with h1 h2 h3
  subst h1 h3
  exact ⟨A, c, hv, hr, hs⟩
/-- How many cells a plan's lists are at most. -/
structure PlFits (d : PlanD) : Prop where
  f0 : d.n0 ≤ 1048576
  f1 : d.n1 ≤ 1048576
  f2 : d.n2 ≤ 1048576
  f3 : d.n3 ≤ 1048576
/-- A plan that can be read, its lists real slices and small. -/
structure IsPlR (w : World) (B : Nat) (v : Value) (d : PlanD) : Prop where
  it : ∃ A0 A1 A2 A3 c0 c1 c2 c3, v = planV A0 A1 A2 A3 d.n0 c0 d.n1 c1 d.n2 c2 d.n3 c3 d.l d.p d.t ∧ (Sl w B 4 A0 d.n0 d.x0 ∧ Sl w B 1 A1 d.n1 d.x1 ∧ Sl w B 2 A2 d.n2 d.x2 ∧ Sl w B 1 A3 d.n3 d.x3) ∧
    (A0 = none → c0 = 0) ∧ (A1 = none → c1 = 0) ∧ (A2 = none → c2 = 0) ∧ (A3 = none → c3 = 0)
  fit : PlFits d
theorem IsPlR.below {w w' : World} {B B' : Nat} {v : Value} {d : PlanD} (h : IsPlR w B v d) (hb : Below B' w w') (hB : B ≤ B') : IsPlR w' B v d := by
  obtain ⟨⟨A0, A1, A2, A3, c0, c1, c2, c3, hv, ⟨h0, h1, h2, h3⟩, hr⟩, hf⟩ := h
  exact ⟨⟨A0, A1, A2, A3, c0, c1, c2, c3, hv, ⟨h0.below hb hB, h1.below hb hB, h2.below hb hB, h3.below hb hB⟩, hr⟩, hf⟩
theorem IsPlR.more {w : World} {B B' : Nat} {v : Value} {d : PlanD} (h : IsPlR w B v d) (hB : B ≤ B') : IsPlR w B' v d := by
  obtain ⟨⟨A0, A1, A2, A3, c0, c1, c2, c3, hv, ⟨h0, h1, h2, h3⟩, hr⟩, hf⟩ := h
  exact ⟨⟨A0, A1, A2, A3, c0, c1, c2, c3, hv, ⟨h0.more hB, h1.more hB, h2.more hB, h3.more hB⟩, hr⟩, hf⟩
theorem IsPlR.go {w w' : World} {v : Value} {d : PlanD} (h : IsPlR w w.heap.size v d) (hb : Below w.heap.size w w') : IsPlR w' w'.heap.size v d := (h.below hb (Nat.le_refl _)).more hb.size
theorem IsPlR.is {w : World} {B : Nat} {v : Value} {d : PlanD} (h : IsPlR w B v d) : IsPlan w B v d := by
  obtain ⟨⟨A0, A1, A2, A3, c0, c1, c2, c3, hv, ⟨h0, h1, h2, h3⟩, -⟩, f0, f1, f2, f3⟩ := h
  have hm : 1048576 ≤ maxLen := by unfold maxLen; decide
  exact ⟨⟨A0, A1, A2, A3, c0, c1, c2, c3, hv, h0, h1, h2, h3⟩, by omega, by omega, by omega, by omega⟩
theorem Lists.plR {w : World} {B : Nat} {v0 v1 v2 v3 : Value} {d : PlanD} (h : Lists w B v0 v1 v2 v3 d) (hf : PlFits d) : IsPlR w w.heap.size (.agg #[v0, v1, v2, v3, .int .i64 d.l, .int .i64 d.p, .int .i64 d.t]) d := by
  obtain ⟨A0, c0, rfl, r0, s0⟩ := h.o0.formR
  obtain ⟨A1, c1, rfl, r1, s1⟩ := h.o1.formR
  obtain ⟨A2, c2, rfl, r2, s2⟩ := h.o2.formR
  obtain ⟨A3, c3, rfl, r3, s3⟩ := h.o3.formR
  exact ⟨⟨_, _, _, _, _, _, _, _, rfl, ⟨s0, s1, s2, s3⟩, r0, r1, r2, r3⟩, hf⟩
theorem PlFits.of_ok {d : PlanD} (h : planOkB d = true) : PlFits d := by
  simp only [planOkB, sizesB, Bool.and_eq_true, decide_eq_true_eq] at h
  exact ⟨by omega, by omega, by omega, by omega⟩
/-- What makes a plan of the call's own answers. -/
def MadePl (w : World) (d : PlanD) (e : Ending) (w' : World) : Prop :=
  ∃ v0 v1 v2 v3, e = .returned (.agg #[v0, v1, v2, v3, .int .i64 d.l, .int .i64 d.p, .int .i64 d.t]) ∧ Lists w' w.heap.size v0 v1 v2 v3 d ∧ Below w.heap.size w w'

set_option maxRecDepth 4000 in
set_option maxHeartbeats 4000000 in
theorem l15PlanCopy_any (v : Value) (d : PlanD) (w : World) (h : IsPlR w w.heap.size v d) : Calls Tryz.prog 37 #[v] w (MadePl w d) := by
  obtain ⟨⟨A0_, A1_, A2_, A3_, c0, c1, c2, c3, rfl, ⟨s0, s1, s2, s3⟩, r0, r1, r2, r3⟩, f0, f1, f2, f3⟩ := h
  obtain ⟨n0, n1, n2, n3, x0, x1, x2, x3, l, p, t⟩ := d
  dsimp only at *
  have S0 := Lib.hid s0.slv
  have S1 : Hid (SlV w w.heap.size 1 A1_ n1 (lkCs ((List.range n1).map x1))) := Lib.hid (by rw [lk_cells]; have := s1.slv; rwa [Nat.mul_one] at this)
  have S2 := Lib.hid s2.slv
  have S3 := Lib.hid s3.slv
  have R0 := Lib.hid r0
  have F0 := Lib.hid f0
  have R1 := Lib.hid r1
  have F1 := Lib.hid f1
  have R2 := Lib.hid r2
  have F2 := Lib.hid f2
  have R3 := Lib.hid r3
  have F3 := Lib.hid f3
  clear s0 s1 s2 s3 r0 r1 r2 r3 f0 f1 f2 f3
  obtain ⟨i0, hi, hz0, hz1, hz2⟩ := info_parts info_pod
  have HI := Lib.hid hi
  have HZ0 := Lib.hid hz0
  have HZ1 := Lib.hid hz1
  have HZ2 := Lib.hid hz2
  clear hi hz0 hz1 hz2
  obtain ⟨i1, hi, hz0, hz1, hz2⟩ := info_parts info_mount
  have GI := Lib.hid hi
  have GZ0 := Lib.hid hz0
  have GZ1 := Lib.hid hz1
  have GZ2 := Lib.hid hz2
  clear hi hz0 hz1 hz2
  obtain ⟨i2, hi, hz0, hz1, hz2⟩ := info_parts info_device
  have DI := Lib.hid hi
  have DZ0 := Lib.hid hz0
  have DZ1 := Lib.hid hz1
  have DZ2 := Lib.hid hz2
  clear hi hz0 hz1 hz2
  have T0 := Two.start w (planC A0_ A1_ A2_ A3_ n0 c0 n1 c1 n2 c2 n3 c3 l p t) (planC none none none none 0 0 0 0 0 0 0 0 0 0 0) 42 42
  have HW : Hid (((w.alloc (.cells (planC A0_ A1_ A2_ A3_ n0 c0 n1 c1 n2 c2 n3 c3 l p t) 42)).alloc (.cells (planC none none none none 0 0 0 0 0 0 0 0 0 0 0) 42)).heap.size = w.heap.size + 1 + 1) := Lib.hid (by simp)
  go_enter Tryz.func37, Tryz.ntmps37
  go_wp2_with (first
      | (at_builtin
         have AS3 := A3.set (Nat.le_refl _) (i := 2) (by simp) (.slice B2 n2 e2)
         have OS3 := O3.far (p := ⟨w.heap.size, 2, none⟩) (Nat.le_refl _) (by simp) (.slice B2 n2 e2)
         have HQ30 := Lib.hid (ownsRow_setCell_below (HO20).out (a := ⟨w.heap.size, 2, none⟩) (by simp) (.slice B2 n2 e2))
         have HQ31 := Lib.hid (ownsRow_setCell_below (HO21).out (a := ⟨w.heap.size, 2, none⟩) (by simp) (.slice B2 n2 e2))
         have HQ32 := Lib.hid (ownsRow_setCell_below (HO22).out (a := ⟨w.heap.size, 2, none⟩) (by simp) (.slice B2 n2 e2))
         refine wpList_append_slv rfl _ _ 40 127 i2 (.agg #[.int .i64 0]) 1 8 rfl Tryz.underlying40 DI.out DZ0.out DZ1.out DZ2.out rfl (by decide) (by decide) (w.heap.size + 2) _ 0 [] rfl (made_at _ _ _ _ _ (by simp) OS3.z) A3_ n3 c3 (cellsI (n3 * 1) x3) rfl R3.out (S3.out.below (AS3.K.alloc AS3.K.size _) (Nat.le_refl _)) (cellsI_one _ _) (by have := F3.out; omega) (le_alloc OS3.z) ?_
         intro v3 w5 hown hgrow
         have K3 := grown_at (by simp) hgrow
         replace hown : w5.ownsRow (w.heap.size + 2) 127 1 v3 n3 (cellsI (n3 * 1) x3) := by simpa using hown
         clear hgrow
         have A4 := AS3.step K3
         have O4 := OS3.step K3
         obtain ⟨B3, e3, rfl, -⟩ := open_rowR hown
         have HO33 := Lib.hid hown
         have HO30 := Lib.hid (ownsRow_below HQ30.out K3)
         have HO31 := Lib.hid (ownsRow_below HQ31.out K3)
         have HO32 := Lib.hid (ownsRow_below HQ32.out K3)
         clear hown K3 hC hF hz AS3 OS3 A3 O3
         have hC := A4.C
         have hF := A4.F
         have hz := A4.z
         have hD := O4.C
         have hG := O4.F)
      | (at_builtin
         have AS2 := A2.set (Nat.le_refl _) (i := 1) (by simp) (.slice B1 n1 e1)
         have OS2 := O2.far (p := ⟨w.heap.size, 1, none⟩) (Nat.le_refl _) (by simp) (.slice B1 n1 e1)
         have HQ20 := Lib.hid (ownsRow_setCell_below (HO10).out (a := ⟨w.heap.size, 1, none⟩) (by simp) (.slice B1 n1 e1))
         have HQ21 := Lib.hid (ownsRow_setCell_below (HO11).out (a := ⟨w.heap.size, 1, none⟩) (by simp) (.slice B1 n1 e1))
         refine wpList_append_slv rfl _ _ 39 123 i1 (.agg #[.int .i64 0, .int .i64 0]) 2 16 rfl Tryz.underlying39 GI.out GZ0.out GZ1.out GZ2.out rfl (by decide) (by decide) (w.heap.size + 2) _ 0 [] rfl (made_at _ _ _ _ _ (by simp) OS2.z) A2_ n2 c2 (cellsI (n2 * 2) x2) rfl R2.out (S2.out.below (AS2.K.alloc AS2.K.size _) (Nat.le_refl _)) (cellsI_one _ _) (by have := F2.out; omega) (le_alloc OS2.z) ?_
         intro v2 w4 hown hgrow
         have K2 := grown_at (by simp) hgrow
         replace hown : w4.ownsRow (w.heap.size + 2) 123 2 v2 n2 (cellsI (n2 * 2) x2) := by simpa using hown
         clear hgrow
         have A3 := AS2.step K2
         have O3 := OS2.step K2
         obtain ⟨B2, e2, rfl, -⟩ := open_rowR hown
         have HO22 := Lib.hid hown
         have HO20 := Lib.hid (ownsRow_below HQ20.out K2)
         have HO21 := Lib.hid (ownsRow_below HQ21.out K2)
         clear hown K2 hC hF hz AS2 OS2 A2 O2
         have hC := A3.C
         have hF := A3.F
         have hz := A3.z)
      | (go_at_call 81
         have AS1 := A1.set (Nat.le_refl _) (i := 0) (by simp) (.slice B0 n0 e0)
         have OS1 := O1.far (p := ⟨w.heap.size, 0, none⟩) (Nat.le_refl _) (by simp) (.slice B0 n0 e0)
         have HQ10 := Lib.hid (ownsRow_setCell_below (HO00).out (a := ⟨w.heap.size, 0, none⟩) (by simp) (.slice B0 n0 e0))
         refine (l1Copy_any A1_ n1 c1 ((List.range n1).map x1) _ ((S1.out.below AS1.K (Nat.le_refl _)).more AS1.K.size) R1.out F1.out).mono ?_
         rintro e w3 ⟨v1, rfl, hown, K1⟩
         replace hown : w3.ownsRow (w.heap.size + 2) 2 1 v1 n1 (lkCs ((List.range n1).map x1)) := ownsRow_base hown OS1.z
         have A2 := AS1.step K1
         have O2 := OS1.step K1
         obtain ⟨B1, e1, rfl, -⟩ := open_rowR hown
         have HO11 := Lib.hid hown
         have HO10 := Lib.hid (ownsRow_below HQ10.out K1)
         clear hown K1 hC hF hz AS1 OS1 A1 O1
         have hC := A2.C
         have hF := A2.F
         have hz := A2.z)
      | (at_builtin
         refine wpList_append_slv rfl _ _ 38 119 i0 (.agg #[.int .i64 0, .int .i64 0, .int .i64 0, .int .i64 0]) 4 32 rfl Tryz.underlying38 HI.out HZ0.out HZ1.out HZ2.out rfl (by decide) (by decide) (w.heap.size + 2) _ 0 [] rfl (made_at _ _ _ _ _ HW.out T0.O.z) A0_ n0 c0 (cellsI (n0 * 4) x0) rfl R0.out (S0.out.below (T0.A.K.alloc T0.A.K.size _) (Nat.le_refl _)) (cellsI_one _ _) (by have := F0.out; omega) (le_alloc T0.O.z) ?_
         intro v0 w2 hown hgrow
         have K0 := grown_at HW.out hgrow
         replace hown : w2.ownsRow (w.heap.size + 2) 119 4 v0 n0 (cellsI (n0 * 4) x0) := by simpa using hown
         clear hgrow
         have A1 := T0.A.step K0
         have O1 := T0.O.step K0
         obtain ⟨B0, e0, rfl, -⟩ := open_rowR hown
         have HO00 := Lib.hid hown
         clear hown K0 T0 HW
         have hC := A1.C
         have hF := A1.F
         have hz := A1.z))
  refine bodyPost_ret (v := .agg (planC B0 B1 B2 B3 n0 e0 n1 e1 n2 e2 n3 e3 l p t)) ?_ rfl ⟨_, _, _, _, rfl, ⟨OI.of_cells ?_, OI.of_cells ?_, OI.of_cells ?_, OI.of_cells ?_⟩, ?_⟩
  · simp [results, Tryz.results37, go_sem, hD]
  · refine ownsRow_base (base := w.heap.size + 2) ?_ (by omega)
    iterate 8 (refine ownsRow_setCell_below ?_ (by simp) _)
    exact HO30.out
  · rw [Nat.mul_one, ← lk_cells]
    refine ownsRow_base (base := w.heap.size + 2) ?_ (by omega)
    iterate 8 (refine ownsRow_setCell_below ?_ (by simp) _)
    exact HO31.out
  · refine ownsRow_base (base := w.heap.size + 2) ?_ (by omega)
    iterate 8 (refine ownsRow_setCell_below ?_ (by simp) _)
    exact HO32.out
  · refine ownsRow_base (base := w.heap.size + 2) ?_ (by omega)
    iterate 8 (refine ownsRow_setCell_below ?_ (by simp) _)
    exact HO33.out
  · iterate 8 (refine Below.setCell ?_ (by simp) _)
    exact A4.K
end Go.Proofs.YtkefbmbjkijilaaGreatDoor
/- Ea -/
set_option linter.unusedVariables false
namespace Go.Proofs.YtkefbmbjkijilaaGreatDoor
open Go.RowKit

theorem sumN_take {L : List Nat} {k : Nat} (hk : k < L.length) : sumN (L.take (k + 1)) = (31 * sumN (L.take k) + L.getD k 0) % 65521 := by
  rw [List.take_succ_eq_append_getElem hk]
  unfold sumN
  rw [List.foldl_append]
  simp [List.getD, hk]
theorem at2_drop (L : List Nat) (p i : Nat) : at2 (L.drop p) i = at2 L (p + i) := by
  unfold at2
  rw [getD_drop, getD_drop, Nat.add_assoc]
theorem at2_lt {L : List Nat} (h : SmallB L) (i : Nat) : at2 L i < 65536 := by
  have h0 := h.getD i
  have h1 := h.getD (i + 1)
  unfold at2
  omega

set_option maxHeartbeats 1000000 in
theorem specSumOf_any (v : Value) (L : List Nat) (w : World) (h : Bt w w.heap.size v L) :
    Calls Tryz.prog 68 #[v] w fun e w' => e = .returned (.int .i64 (sumN L)) ∧ w = w' := by
  have H := Lib.hid h
  obtain ⟨⟨A, c, rfl, hcap, -⟩, hl, hs⟩ := h
  have HS := Lib.hid hs
  have hl' : L.length ≤ 2 ^ 63 - 1 := by unfold maxLen at hl; omega
  clear hs hl hcap
  generalize hn : L.length = n at *
  have HN := Lib.hid hn
  clear hn
  go_enter Tryz.func68, Tryz.ntmps68
  go_wp2
  go_loop [3, 4] (fun s3 s4 => ∃ k : Nat, k ≤ n ∧ s4 = .int .i64 k ∧ s3 = .int .i64 (sumN (L.take k))) (fun _ s4 => n - (intOf s4).toNat)
  case atStart => exact ⟨0, Nat.zero_le _, rfl, rfl⟩
  case round =>
    obtain ⟨k, hk, rfl, rfl⟩ := hrel
    by_cases hlt : k < n
    · obtain ⟨b, off, rfl, hb, q⟩ := H.out.cell (k := k) (by rw [HN.out]; exact hlt)
      have zlt := HS.out.getD k
      have hsum := Lib.hid (sumN_take (L := L) (k := k) (by rw [HN.out]; exact hlt))
      have slt := sumN_lt (L.take k)
      generalize L.getD k 0 = z at *
      generalize sumN (L.take k) = s at *
      go_wp2
      refine ⟨⟨k + 1, by omega, by go_num, ?_⟩, by simp [intOf]; omega⟩
      rw [hsum.out]
      go_num
    · obtain rfl : k = n := by omega
      have e1 := Lib.hid (show L.take k = L from List.take_of_length_le (by rw [HN.out]; exact Nat.le_refl _))
      go_wp2
      go_ret
      exact ⟨by rw [e1.out]; rfl, rfl⟩

set_option maxHeartbeats 1000000 in
theorem l4Of_any (v : Value) (L : List Nat) (i : Nat) (q : Int) (hq : q = i) (w : World) (h : Bt w w.heap.size v L) (hi : i + 1 < L.length) :
    Calls Tryz.prog 66 #[v, .int .i64 q] w fun e w' => e = .returned (.int .i64 (at2 L i)) ∧ Below w.heap.size w w' := by
  subst hq
  have H := Lib.hid h
  obtain ⟨⟨A, c, rfl, hcap, -⟩, hl, hs⟩ := h
  have hl' : L.length ≤ 2 ^ 63 - 1 := by unfold maxLen at hl; omega
  obtain ⟨b, off, rfl, hb, q0⟩ := H.out.cell (k := i) (by omega)
  obtain ⟨b', off', e, hb', q1⟩ := H.out.cell (k := i + 1) (by omega)
  injection e with e
  injection e with e1 e2
  subst e1 e2
  have z0 := hs.getD i
  have z1 := hs.getD (i + 1)
  have hat := Lib.hid (show at2 L i = L.getD i 0 + 256 * L.getD (i + 1) 0 from rfl)
  generalize at2 L i = a at *
  generalize L.getD i 0 = x at *
  generalize L.getD (i + 1) 0 = y at *
  clear hs hl hcap
  generalize L.length = n at *
  go_enter Tryz.func66, Tryz.ntmps66
  go_wp2_with fail
  go_quiet (fail)
  go_wp2
  go_ret
  exact ⟨by rw [hat.out]; congr 1, below_drewN (Below.refl _ _) _⟩
end Go.Proofs.YtkefbmbjkijilaaGreatDoor
