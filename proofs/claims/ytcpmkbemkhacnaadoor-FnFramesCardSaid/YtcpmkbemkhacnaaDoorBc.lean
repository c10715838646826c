/-
  A number read from bytes: the program's readNumber, the model's l3Get.
-/
import Derived.Test.YtcpmkbemkhacnaaDoorBb
import Derived.Test.YtcpmkbemkhacnaaDoorRc
import Derived.OwnWalk
set_option linter.unusedVariables false
namespace Go.Proofs.YtcpmkbemkhacnaaDoor
open Go.RowKit

/-- What readNumber answers of the bytes L. -/
def ReadNum (B : Nat) (L : List Nat) (w : World) (e : Ending) (w' : World) : Prop :=
  ∃ (n : Nat) (v : Value) (ok : Bool), e = .returned (.tuple #[.int .i64 n, v, .bool ok]) ∧ Below w.heap.size w w' ∧
    ((ok = true ∧ ∃ r, num (128 ^ 3) L = some (n, r) ∧ Bt w' B v r) ∨ (ok = false ∧ num (128 ^ 3) L = none))

set_option maxRecDepth 100000 in
set_option maxHeartbeats 2000000 in
theorem readNumber_any (v : Value) (L : List Nat) (w : World) (B : Nat) (h : Bt w B v L) (hB : B ≤ w.heap.size) :
    Calls Tryd.prog 71 #[v] w (ReadNum B L w) := by
  have H := Lib.hid h
  have HB := Lib.hid hB
  clear hB
  obtain ⟨⟨A, c, rfl, hcap, -⟩, hl, hs⟩ := h
  have HS := Lib.hid hs
  have hl' : L.length ≤ 2 ^ 63 - 1 := by unfold maxLen at hl; omega
  clear hs hl
  generalize hn : L.length = n at *
  have HN := Lib.hid hn
  clear hn
  go_enter Tryd.func71, Tryd.ntmps71
  go_wp2
  all_goals
    go_loopw [5, 11] (fun s5 i wr => ∃ k : Nat, k ≤ 3 ∧ k ≤ n ∧ i = .int .i64 k ∧ s5 = .int .i64 (lowN k L : Nat) ∧ (∀ j, j < k → 128 ≤ L.getD j 0) ∧ Below w.heap.size w wr) (fun _ i _ => 3 - (intOf i).toNat)
    case atStart => exact ⟨0, by omega, Nat.zero_le _, rfl, rfl, fun j hj => absurd hj (by omega), Below.refl _ _⟩
    case round =>
      obtain ⟨k, hk3, hkn, rfl, rfl, hall, K⟩ := hrel
      have HA := Lib.hid hall
      clear hall
      by_cases hlt : k < 3 ∧ k < n
      · obtain ⟨h3, hn⟩ := hlt
        obtain ⟨b, off, rfl, hb, q⟩ := (H.out.below K HB.out).cell (k := k) (by rw [HN.out]; exact hn)
        have zlt := HS.out.getD k
        have hlo := lowN_lt k L
        have hlo2 : lowN k L < 2097152 := Nat.lt_of_lt_of_le hlo (Nat.pow_le_pow_right (n := 128) (j := 3) (by omega) (by omega))
        clear hlo
        have hsucc := Lib.hid (lowN_succ k L)
        generalize hz : L.getD k 0 = z at *
        have HZ := Lib.hid hz
        clear hz
        by_cases h128 : z < 128
        · have hnum := Lib.hid (fun (hz : 0 < k → 0 < z) => num_at (K := 3) h3 (by rw [HN.out]; exact hn) HA.out (by rw [HZ.out]; exact h128) HS.out (by rw [HZ.out]; omega))
          have hbad := Lib.hid (fun (h0 : 0 < k) (hz : z = 0) => num_bad (m := 128 ^ 3) (by rw [HN.out]; exact hn) HA.out (by rw [HZ.out]; exact h128) HS.out (by rw [HZ.out]; omega))
          have hdrop := Lib.hid (fun (A : Option Addr) (hA : c ≠ k + 1 → A = some ⟨b, off + (k + 1), none⟩) => (H.out.below K HB.out).drop_at (k := k + 1) (by omega) hA)
          have hdrop0 : Hid (c = k + 1 → Bt wr B (.slice (some ⟨b, off, none⟩) (n - (k + 1)) 0) (L.drop (k + 1))) := Lib.hid (fun hc => by
            have := (H.out.below K HB.out).drop_at (k := k + 1) (A := some ⟨b, off, none⟩) (by omega) (fun h => absurd hc h)
            rw [hc, Nat.sub_self] at this
            exact this)
          rcases (by omega : k = 0 ∨ k = 1 ∨ k = 2) with rfl | rfl | rfl
          · (try simp only [Nat.add_zero] at q)
            go_wp2_with fail
            all_goals go_quiet (fail)
            all_goals go_wp2_with fail
            all_goals
              go_ret3
              first
                | exact ⟨lowN 1 L, _, _, ret_three (int_eq (by rw [hsucc.out]; simp)) rfl rfl, below_drewN K _, .inl ⟨rfl, _, hnum.out (by omega), Bt.below (hdrop.out _ (fun _ => rfl)) (below_drewN (Below.refl _ _) nq) (Nat.le_refl _)⟩⟩
                | exact ⟨lowN 1 L, _, _, ret_three (int_eq (by rw [hsucc.out]; simp)) rfl rfl, below_drewN K _, .inl ⟨rfl, _, hnum.out (by omega), Bt.below (hdrop0.out (by assumption)) (below_drewN (Below.refl _ _) nq) (Nat.le_refl _)⟩⟩
          · (try simp only [Nat.add_zero] at q)
            go_wp2_with fail
            all_goals go_quiet (fail)
            all_goals go_wp2_with fail
            all_goals
              go_ret3
              by_cases hz : 0 < z
              · first
                  | exact ⟨lowN (1 + 1) L, _, _, ret_three (int_eq (by rw [hsucc.out]; simp)) rfl rfl, below_drewN K _, .inl ⟨decide_eq_true hz, _, hnum.out (fun _ => hz), Bt.below (hdrop.out _ (fun _ => rfl)) (below_drewN (Below.refl _ _) nq) (Nat.le_refl _)⟩⟩
                  | exact ⟨lowN (1 + 1) L, _, _, ret_three (int_eq (by rw [hsucc.out]; simp)) rfl rfl, below_drewN K _, .inl ⟨decide_eq_true hz, _, hnum.out (fun _ => hz), Bt.below (hdrop0.out (by assumption)) (below_drewN (Below.refl _ _) nq) (Nat.le_refl _)⟩⟩
              · exact ⟨lowN (1 + 1) L, _, _, ret_three (int_eq (by rw [hsucc.out]; simp)) rfl rfl, below_drewN K _, .inr ⟨decide_eq_false hz, hbad.out (by omega) (by omega)⟩⟩
          · (try simp only [Nat.add_zero] at q)
            go_wp2_with fail
            all_goals go_quiet (fail)
            all_goals go_wp2_with fail
            all_goals
              go_ret3
              by_cases hz : 0 < z
              · first
                  | exact ⟨lowN (2 + 1) L, _, _, ret_three (int_eq (by rw [hsucc.out]; simp)) rfl rfl, below_drewN K _, .inl ⟨decide_eq_true hz, _, hnum.out (fun _ => hz), Bt.below (hdrop.out _ (fun _ => rfl)) (below_drewN (Below.refl _ _) nq) (Nat.le_refl _)⟩⟩
                  | exact ⟨lowN (2 + 1) L, _, _, ret_three (int_eq (by rw [hsucc.out]; simp)) rfl rfl, below_drewN K _, .inl ⟨decide_eq_true hz, _, hnum.out (fun _ => hz), Bt.below (hdrop0.out (by assumption)) (below_drewN (Below.refl _ _) nq) (Nat.le_refl _)⟩⟩
              · exact ⟨lowN (2 + 1) L, _, _, ret_three (int_eq (by rw [hsucc.out]; simp)) rfl rfl, below_drewN K _, .inr ⟨decide_eq_false hz, hbad.out (by omega) (by omega)⟩⟩
        · rcases (by omega : k = 0 ∨ k = 1 ∨ k = 2) with rfl | rfl | rfl
          · (try simp only [Nat.add_zero] at q)
            go_wp2
            refine ⟨⟨1, by omega, by omega, by go_num, ?_, ?_, K⟩, by simp [intOf]⟩
            · refine int_eq ?_
              rw [hsucc.out]
              simp
            · intro j hj
              by_cases h : j < 0
              · exact HA.out j h
              · obtain rfl : j = 0 := by omega
                rw [HZ.out]; omega
          · (try simp only [Nat.add_zero] at q)
            go_wp2
            refine ⟨⟨2, by omega, by omega, by go_num, ?_, ?_, K⟩, by simp [intOf]⟩
            · refine int_eq ?_
              rw [hsucc.out]
              simp
            · intro j hj
              by_cases h : j < 1
              · exact HA.out j h
              · obtain rfl : j = 1 := by omega
                rw [HZ.out]; omega
          · (try simp only [Nat.add_zero] at q)
            go_wp2
            refine ⟨⟨3, by omega, by omega, by go_num, ?_, ?_, K⟩, by simp [intOf]⟩
            · refine int_eq ?_
              rw [hsucc.out]
              simp
            · intro j hj
              by_cases h : j < 2
              · exact HA.out j h
              · obtain rfl : j = 2 := by omega
                rw [HZ.out]; omega
      · have hend : num (128 ^ 3) L = none := num_end (by omega) fun j h1 h2 => HA.out j (by have := HN.out; omega)
        have HE := Lib.hid hend
        clear hend
        rcases (by omega : k = 3 ∨ k = n) with rfl | rfl
        all_goals first
          | (exfalso; omega)
          | (go_wp2
             go_ret3
             exact ⟨0, _, _, ret_three rfl rfl rfl, K, .inr ⟨rfl, HE.out⟩⟩)

/-- What l3Get answers of the bytes L from place i on. -/
def GotNum (L : List Nat) (i : Nat) (w : World) (e : Ending) (w' : World) : Prop :=
  w = w' ∧ ((∃ n p : Nat, e = .returned (.tuple #[.int .i64 n, .int .i64 p]) ∧ p ≤ L.length ∧ num (128 ^ 4) (L.drop i) = some (n, L.drop p)) ∨ (e = .returned (.tuple #[.int .i64 (-1), .int .i64 0]) ∧ num (128 ^ 4) (L.drop i) = none))

set_option maxRecDepth 100000 in
set_option maxHeartbeats 2000000 in
theorem get_any (v : Value) (L : List Nat) (i : Nat) (w : World) (h : Bt w w.heap.size v L) (hi : i ≤ L.length) :
    Calls Tryd.prog 54 #[v, .int .i64 i] w (GotNum L i w) := by
  have H := Lib.hid h
  obtain ⟨⟨A, c, rfl, hcap, -⟩, hl, hs⟩ := h
  have HS := Lib.hid hs
  have hl' : L.length ≤ 2 ^ 63 - 1 := by unfold maxLen at hl; omega
  have HM := Lib.hid (show SmallB (L.drop i) from hs.drop i)
  clear hs hl
  generalize hn : L.length = n at *
  have HN := Lib.hid hn
  clear hn
  go_enter Tryd.func54, Tryd.ntmps54
  go_wp2
  go_loop [6, 7] (fun s6 kk => ∃ k : Nat, k ≤ 4 ∧ i + k ≤ n ∧ kk = .int .i64 k ∧ s6 = .int .i64 (lowN k (L.drop i) : Nat) ∧ (∀ j, j < k → 128 ≤ (L.drop i).getD j 0)) (fun _ kk => 4 - (intOf kk).toNat)
  case atStart => exact ⟨0, by omega, by omega, rfl, rfl, fun j hj => absurd hj (by omega)⟩
  case round =>
    obtain ⟨k, hk4, hkn, rfl, rfl, hall⟩ := hrel
    have HA := Lib.hid hall
    clear hall
    have hlo := lowN_lt k (L.drop i)
    have hlo2 : lowN k (L.drop i) < 268435456 := Nat.lt_of_lt_of_le hlo (Nat.pow_le_pow_right (n := 128) (j := 4) (by omega) (by omega))
    clear hlo
    by_cases h4 : k < 4
    · by_cases hin : i + k < n
      · obtain ⟨b, off, rfl, hb, q⟩ := H.out.cell (k := i + k) (by rw [HN.out]; exact hin)
        have zlt := HS.out.getD (i + k)
        have hsucc := Lib.hid (lowN_succ k (L.drop i))
        rw [← getD_drop] at q zlt
        generalize hz : (L.drop i).getD k 0 = z at *
        have HZ := Lib.hid hz
        clear hz
        have hkl : k < (L.drop i).length := by rw [List.length_drop, HN.out]; omega
        by_cases h128 : z < 128
        · have hnum : Hid ((0 < k → 0 < z) → num (128 ^ 4) (L.drop i) = some (lowN (k + 1) (L.drop i), L.drop (i + (k + 1)))) := Lib.hid (fun (hz : 0 < k → 0 < z) => by rw [← List.drop_drop]; exact num_at (K := 4) h4 hkl HA.out (by rw [HZ.out]; exact h128) HM.out (by rw [HZ.out]; omega))
          have hbad := Lib.hid (fun (h0 : 0 < k) (hz : z = 0) => num_bad (m := 128 ^ 4) hkl HA.out (by rw [HZ.out]; exact h128) HM.out (by rw [HZ.out]; omega))
          clear hkl
          rcases (by omega : k = 0 ∨ k = 1 ∨ k = 2 ∨ k = 3) with rfl | rfl | rfl | rfl
          · simp only [Nat.add_zero] at q
            go_wp2
            go_ret2
            exact ⟨rfl, .inl ⟨lowN (0 + 1) (L.drop i), i + (0 + 1), ret_two (int_eq (by rw [hsucc.out]; simp)) (int_eq (by omega)), by rw [HN.out]; omega, hnum.out (by omega)⟩⟩
          · by_cases hz : z = 0
            · subst hz
              go_wp2
              go_ret2
              exact ⟨rfl, .inr ⟨rfl, hbad.out (by omega) (by first | trivial | rfl)⟩⟩
            · have hz1 : ((z : Int) == 0) = false := by simp; omega
              have hz2 : ¬ (z : Int) = 0 := by omega
              go_wp2
              go_ret2
              exact ⟨rfl, .inl ⟨lowN (1 + 1) (L.drop i), i + (1 + 1), ret_two (int_eq (by rw [hsucc.out]; simp)) (int_eq (by omega)), by rw [HN.out]; omega, hnum.out (fun _ => by omega)⟩⟩
          · by_cases hz : z = 0
            · subst hz
              go_wp2
              go_ret2
              exact ⟨rfl, .inr ⟨rfl, hbad.out (by omega) (by first | trivial | rfl)⟩⟩
            · have hz1 : ((z : Int) == 0) = false := by simp; omega
              have hz2 : ¬ (z : Int) = 0 := by omega
              go_wp2
              go_ret2
              exact ⟨rfl, .inl ⟨lowN (2 + 1) (L.drop i), i + (2 + 1), ret_two (int_eq (by rw [hsucc.out]; simp)) (int_eq (by omega)), by rw [HN.out]; omega, hnum.out (fun _ => by omega)⟩⟩
          · by_cases hz : z = 0
            · subst hz
              go_wp2
              go_ret2
              exact ⟨rfl, .inr ⟨rfl, hbad.out (by omega) (by first | trivial | rfl)⟩⟩
            · have hz1 : ((z : Int) == 0) = false := by simp; omega
              have hz2 : ¬ (z : Int) = 0 := by omega
              go_wp2
              go_ret2
              exact ⟨rfl, .inl ⟨lowN (3 + 1) (L.drop i), i + (3 + 1), ret_two (int_eq (by rw [hsucc.out]; simp)) (int_eq (by omega)), by rw [HN.out]; omega, hnum.out (fun _ => by omega)⟩⟩
        · rcases (by omega : k = 0 ∨ k = 1 ∨ k = 2 ∨ k = 3) with rfl | rfl | rfl | rfl
          · (try simp only [Nat.add_zero] at q)
            go_wp2
            refine ⟨⟨1, by omega, by omega, by go_num, ?_, ?_⟩, by simp [intOf]⟩
            · refine int_eq ?_
              rw [hsucc.out]
              simp
            · intro j hj
              by_cases h : j < 0
              · exact HA.out j h
              · obtain rfl : j = 0 := by omega
                rw [HZ.out]; omega
          · (try simp only [Nat.add_zero] at q)
            go_wp2
            refine ⟨⟨2, by omega, by omega, by go_num, ?_, ?_⟩, by simp [intOf]⟩
            · refine int_eq ?_
              rw [hsucc.out]
              simp
            · intro j hj
              by_cases h : j < 1
              · exact HA.out j h
              · obtain rfl : j = 1 := by omega
                rw [HZ.out]; omega
          · (try simp only [Nat.add_zero] at q)
            go_wp2
            refine ⟨⟨3, by omega, by omega, by go_num, ?_, ?_⟩, by simp [intOf]⟩
            · refine int_eq ?_
              rw [hsucc.out]
              simp
            · intro j hj
              by_cases h : j < 2
              · exact HA.out j h
              · obtain rfl : j = 2 := by omega
                rw [HZ.out]; omega
          · (try simp only [Nat.add_zero] at q)
            go_wp2
            refine ⟨⟨4, by omega, by omega, by go_num, ?_, ?_⟩, by simp [intOf]⟩
            · refine int_eq ?_
              rw [hsucc.out]
              simp
            · intro j hj
              by_cases h : j < 3
              · exact HA.out j h
              · obtain rfl : j = 3 := by omega
                rw [HZ.out]; omega
      · obtain rfl : i + k = n := by omega
        have hend : num (128 ^ 4) (L.drop i) = none := num_end (by omega) fun j h1 h2 => HA.out j (by have := HN.out; rw [List.length_drop] at h2; omega)
        have HE := Lib.hid hend
        clear hend
        go_wp2
        go_ret2
        exact ⟨rfl, .inr ⟨rfl, HE.out⟩⟩
    · obtain rfl : k = 4 := by omega
      have hend : num (128 ^ 4) (L.drop i) = none := num_end (by omega) fun j h1 h2 => HA.out j (by omega)
      have HE := Lib.hid hend
      clear hend
      go_wp2
      go_ret2
      exact ⟨rfl, .inr ⟨rfl, HE.out⟩⟩
end Go.Proofs.YtcpmkbemkhacnaaDoor
