/-
  Marks in the lists of a plan and in bytes, with what the rows hold then.
-/
import Derived.Test.YtkefbmbjkijilaaGreatDoorMZ19
set_option linter.unusedVariables false
namespace Go.Proofs.YtkefbmbjkijilaaGreatDoor
open Go.RowKit


set_option maxHeartbeats 1000000 in
theorem markPodS_row (A : Option Addr) (n c g : Nat) (k0 : Int) (x : Nat → Int) (w : World) (hA : 0 < n → A = some ⟨g, 0, none⟩) (R : RowF w g (n * 4) x) (hn : n ≤ 1048576) (h0 : 0 ≤ k0) (h1 : k0 ≤ 8388608) :
    Calls Tryz.prog 47 #[.slice A n c, .int .i64 k0] w fun e w' => e = .returned (.int .i64 (k0 + 4 * n)) ∧ RowF w' g (n * 4) (fun j => k0 + j) ∧ Keeps (· = g) w w' := by
  have HN := Lib.hid hn
  have hn' : n ≤ 2 ^ 63 - 1 := by omega
  have HA := Lib.hid hA
  clear hn hA
  go_enter Tryz.func47, Tryz.ntmps47
  go_wp2
  go_loopw [1, 5] (fun kk i wr => ∃ m : Nat, m ≤ n ∧ i = .int .i64 m ∧ kk = .int .i64 (k0 + 4 * m) ∧ RowF wr g (n * 4) (fun j => if j < m * 4 then k0 + j else x j) ∧ Keeps (· = g) w wr) (fun _ i _ => n - (intOf i).toNat)
  case atStart => exact ⟨0, Nat.zero_le _, rfl, by simp, R.congr fun j _ => by simp, Keeps.refl _ _⟩
  case round =>
    obtain ⟨m, hm, rfl, rfl, Y, K⟩ := hrel
    by_cases hlt : m < n
    · obtain rfl := HA.out (by omega)
      obtain ⟨t0, f0⟩ := Y (m * 4) (by omega)
      obtain ⟨t1, f1⟩ := Y (m * 4 + 1) (by omega)
      obtain ⟨t2, f2⟩ := Y (m * 4 + 2) (by omega)
      obtain ⟨t3, f3⟩ := Y (m * 4 + 3) (by omega)
      have hb := HN.out
      have HY := Lib.hid Y
      have HK := Lib.hid K
      clear Y K
      go_wp2
      have Y := HY.out
      have K := HK.out
      refine ⟨⟨m + 1, by omega, by go_num, by congr 1; omega, ?_, ((((K.set rfl _).set rfl _).set rfl _).set rfl _)⟩, by simp [intOf]; omega⟩
      refine RowF.congr ((((Y.set (i := m * 4) _).set (i := m * 4 + 1) _).set (i := m * 4 + 2) _).set (i := m * 4 + 3) _) fun j hj => ?_
      clear t0
      by_cases e3 : j = m * 4 + 3
      · subst e3; simp; try omega
      simp only [if_neg e3]
      by_cases e2 : j = m * 4 + 2
      · subst e2; simp; try omega
      simp only [if_neg e2]
      by_cases e1 : j = m * 4 + 1
      · subst e1; simp; try omega
      simp only [if_neg e1]
      by_cases e0 : j = m * 4
      · subst e0; simp; try omega
      simp only [if_neg e0]
      by_cases e' : j < m * 4
      · rw [if_pos e', if_pos (by omega)]
      · rw [if_neg e', if_neg (by omega)]
    · obtain rfl : m = n := by omega
      go_wp2
      go_ret
      exact ⟨rfl, Y.congr fun j hj => if_pos hj, K⟩

set_option maxHeartbeats 1000000 in
theorem heldPodS_row (A : Option Addr) (n c g : Nat) (k0 : Int) (w : World) (hA : 0 < n → A = some ⟨g, 0, none⟩) (R : RowF w g (n * 4) (fun j => k0 + j)) (hn : n ≤ 1048576) (h0 : 0 ≤ k0) (h1 : k0 ≤ 8388608) :
    Calls Tryz.prog 91 #[.slice A n c, .int .i64 k0] w fun e w' => e = .returned (.int .i64 (k0 + 4 * n)) ∧ w = w' := by
  have HN := Lib.hid hn
  have hn' : n ≤ 2 ^ 63 - 1 := by omega
  have HA := Lib.hid hA
  have HR := Lib.hid R
  clear hn hA R
  go_enter Tryz.func91, Tryz.ntmps91
  go_wp2
  go_loop [1, 5] (fun kk i => ∃ m : Nat, m ≤ n ∧ i = .int .i64 m ∧ kk = .int .i64 (k0 + 4 * m)) (fun _ i => n - (intOf i).toNat)
  case atStart => exact ⟨0, Nat.zero_le _, rfl, by simp⟩
  case round =>
    obtain ⟨m, hm, rfl, rfl⟩ := hrel
    by_cases hlt : m < n
    · obtain rfl := HA.out (by omega)
      obtain ⟨t0, f0⟩ := HR.out (m * 4) (by omega)
      obtain ⟨t1, f1⟩ := HR.out (m * 4 + 1) (by omega)
      obtain ⟨t2, f2⟩ := HR.out (m * 4 + 2) (by omega)
      obtain ⟨t3, f3⟩ := HR.out (m * 4 + 3) (by omega)
      dsimp only at t0 t1 t2 t3
      rw [show (k0 + ((m * 4 : Nat) : Int)) = k0 + 4 * (m : Int) by omega] at t0
      rw [show (k0 + ((m * 4 + 1 : Nat) : Int)) = k0 + 4 * (m : Int) + 1 by omega] at t1
      rw [show (k0 + ((m * 4 + 2 : Nat) : Int)) = k0 + 4 * (m : Int) + 2 by omega] at t2
      rw [show (k0 + ((m * 4 + 3 : Nat) : Int)) = k0 + 4 * (m : Int) + 3 by omega] at t3
      have hb := HN.out
      go_wp2
      exact ⟨⟨m + 1, by omega, by go_num, by congr 1; omega⟩, by simp [intOf]; omega⟩
    · obtain rfl : m = n := by omega
      go_wp2
      go_ret
      exact ⟨rfl, rfl⟩

set_option maxHeartbeats 1000000 in
theorem markMountS_row (A : Option Addr) (n c g : Nat) (k0 : Int) (x : Nat → Int) (w : World) (hA : 0 < n → A = some ⟨g, 0, none⟩) (R : RowF w g (n * 2) x) (hn : n ≤ 1048576) (h0 : 0 ≤ k0) (h1 : k0 ≤ 8388608) :
    Calls Tryz.prog 49 #[.slice A n c, .int .i64 k0] w fun e w' => e = .returned (.int .i64 (k0 + 2 * n)) ∧ RowF w' g (n * 2) (fun j => k0 + j) ∧ Keeps (· = g) w w' := by
  have HN := Lib.hid hn
  have hn' : n ≤ 2 ^ 63 - 1 := by omega
  have HA := Lib.hid hA
  clear hn hA
  go_enter Tryz.func49, Tryz.ntmps49
  go_wp2
  go_loopw [1, 5] (fun kk i wr => ∃ m : Nat, m ≤ n ∧ i = .int .i64 m ∧ kk = .int .i64 (k0 + 2 * m) ∧ RowF wr g (n * 2) (fun j => if j < m * 2 then k0 + j else x j) ∧ Keeps (· = g) w wr) (fun _ i _ => n - (intOf i).toNat)
  case atStart => exact ⟨0, Nat.zero_le _, rfl, by simp, R.congr fun j _ => by simp, Keeps.refl _ _⟩
  case round =>
    obtain ⟨m, hm, rfl, rfl, Y, K⟩ := hrel
    by_cases hlt : m < n
    · obtain rfl := HA.out (by omega)
      obtain ⟨t0, f0⟩ := Y (m * 2) (by omega)
      obtain ⟨t1, f1⟩ := Y (m * 2 + 1) (by omega)
      have hb := HN.out
      have HY := Lib.hid Y
      have HK := Lib.hid K
      clear Y K
      go_wp2
      have Y := HY.out
      have K := HK.out
      refine ⟨⟨m + 1, by omega, by go_num, by congr 1; omega, ?_, ((K.set rfl _).set rfl _)⟩, by simp [intOf]; omega⟩
      refine RowF.congr ((Y.set (i := m * 2) _).set (i := m * 2 + 1) _) fun j hj => ?_
      clear t0
      by_cases e1 : j = m * 2 + 1
      · subst e1; simp; try omega
      simp only [if_neg e1]
      by_cases e0 : j = m * 2
      · subst e0; simp; try omega
      simp only [if_neg e0]
      by_cases e' : j < m * 2
      · rw [if_pos e', if_pos (by omega)]
      · rw [if_neg e', if_neg (by omega)]
    · obtain rfl : m = n := by omega
      go_wp2
      go_ret
      exact ⟨rfl, Y.congr fun j hj => if_pos hj, K⟩

set_option maxHeartbeats 1000000 in
theorem heldMountS_row (A : Option Addr) (n c g : Nat) (k0 : Int) (w : World) (hA : 0 < n → A = some ⟨g, 0, none⟩) (R : RowF w g (n * 2) (fun j => k0 + j)) (hn : n ≤ 1048576) (h0 : 0 ≤ k0) (h1 : k0 ≤ 8388608) :
    Calls Tryz.prog 93 #[.slice A n c, .int .i64 k0] w fun e w' => e = .returned (.int .i64 (k0 + 2 * n)) ∧ w = w' := by
  have HN := Lib.hid hn
  have hn' : n ≤ 2 ^ 63 - 1 := by omega
  have HA := Lib.hid hA
  have HR := Lib.hid R
  clear hn hA R
  go_enter Tryz.func93, Tryz.ntmps93
  go_wp2
  go_loop [1, 5] (fun kk i => ∃ m : Nat, m ≤ n ∧ i = .int .i64 m ∧ kk = .int .i64 (k0 + 2 * m)) (fun _ i => n - (intOf i).toNat)
  case atStart => exact ⟨0, Nat.zero_le _, rfl, by simp⟩
  case round =>
    obtain ⟨m, hm, rfl, rfl⟩ := hrel
    by_cases hlt : m < n
    · obtain rfl := HA.out (by omega)
      obtain ⟨t0, f0⟩ := HR.out (m * 2) (by omega)
      obtain ⟨t1, f1⟩ := HR.out (m * 2 + 1) (by omega)
      dsimp only at t0 t1
      rw [show (k0 + ((m * 2 : Nat) : Int)) = k0 + 2 * (m : Int) by omega] at t0
      rw [show (k0 + ((m * 2 + 1 : Nat) : Int)) = k0 + 2 * (m : Int) + 1 by omega] at t1
      have hb := HN.out
      go_wp2
      exact ⟨⟨m + 1, by omega, by go_num, by congr 1; omega⟩, by simp [intOf]; omega⟩
    · obtain rfl : m = n := by omega
      go_wp2
      go_ret
      exact ⟨rfl, rfl⟩

set_option maxHeartbeats 1000000 in
theorem markDeviceS_row (A : Option Addr) (n c g : Nat) (k0 : Int) (x : Nat → Int) (w : World) (hA : 0 < n → A = some ⟨g, 0, none⟩) (R : RowF w g n x) (hn : n ≤ 1048576) (h0 : 0 ≤ k0) (h1 : k0 ≤ 8388608) :
    Calls Tryz.prog 50 #[.slice A n c, .int .i64 k0] w fun e w' => e = .returned (.int .i64 (k0 + n)) ∧ RowF w' g n (fun j => k0 + j) ∧ Keeps (· = g) w w' := by
  have HN := Lib.hid hn
  have hn' : n ≤ 2 ^ 63 - 1 := by omega
  have HA := Lib.hid hA
  clear hn hA
  go_enter Tryz.func50, Tryz.ntmps50
  go_wp2
  go_loopw [1, 5] (fun kk i wr => ∃ m : Nat, m ≤ n ∧ i = .int .i64 m ∧ kk = .int .i64 (k0 + m) ∧ RowF wr g n (fun j => if j < m then k0 + j else x j) ∧ Keeps (· = g) w wr) (fun _ i _ => n - (intOf i).toNat)
  case atStart => exact ⟨0, Nat.zero_le _, rfl, by simp, R.congr fun j _ => by simp, Keeps.refl _ _⟩
  case round =>
    obtain ⟨m, hm, rfl, rfl, Y, K⟩ := hrel
    by_cases hlt : m < n
    · obtain rfl := HA.out (by omega)
      obtain ⟨t0, f0⟩ := Y (m) (by omega)
      have hb := HN.out
      have HY := Lib.hid Y
      have HK := Lib.hid K
      clear Y K
      go_wp2
      have Y := HY.out
      have K := HK.out
      refine ⟨⟨m + 1, by omega, by go_num, by congr 1; omega, ?_, (K.set rfl _)⟩, by simp [intOf]; omega⟩
      refine RowF.congr (Y.set (i := m) _) fun j hj => ?_
      clear t0
      by_cases e0 : j = m
      · subst e0; simp; try omega
      simp only [if_neg e0]
      by_cases e' : j < m
      · rw [if_pos e', if_pos (by omega)]
      · rw [if_neg e', if_neg (by omega)]
    · obtain rfl : m = n := by omega
      go_wp2
      go_ret
      exact ⟨rfl, Y.congr fun j hj => if_pos hj, K⟩

set_option maxHeartbeats 1000000 in
theorem heldDeviceS_row (A : Option Addr) (n c g : Nat) (k0 : Int) (w : World) (hA : 0 < n → A = some ⟨g, 0, none⟩) (R : RowF w g n (fun j => k0 + j)) (hn : n ≤ 1048576) (h0 : 0 ≤ k0) (h1 : k0 ≤ 8388608) :
    Calls Tryz.prog 94 #[.slice A n c, .int .i64 k0] w fun e w' => e = .returned (.int .i64 (k0 + n)) ∧ w = w' := by
  have HN := Lib.hid hn
  have hn' : n ≤ 2 ^ 63 - 1 := by omega
  have HA := Lib.hid hA
  have HR := Lib.hid R
  clear hn hA R
  go_enter Tryz.func94, Tryz.ntmps94
  go_wp2
  go_loop [1, 5] (fun kk i => ∃ m : Nat, m ≤ n ∧ i = .int .i64 m ∧ kk = .int .i64 (k0 + m)) (fun _ i => n - (intOf i).toNat)
  case atStart => exact ⟨0, Nat.zero_le _, rfl, by simp⟩
  case round =>
    obtain ⟨m, hm, rfl, rfl⟩ := hrel
    by_cases hlt : m < n
    · obtain rfl := HA.out (by omega)
      obtain ⟨t0, f0⟩ := HR.out (m) (by omega)
      dsimp only at t0
      rw [show (k0 + ((m : Nat) : Int)) = k0 + (m : Int) by omega] at t0
      have hb := HN.out
      go_wp2
      exact ⟨⟨m + 1, by omega, by go_num, by congr 1; omega⟩, by simp [intOf]; omega⟩
    · obtain rfl : m = n := by omega
      go_wp2
      go_ret
      exact ⟨rfl, rfl⟩

set_option maxHeartbeats 1000000 in
theorem heldInt64S_row (A : Option Addr) (n c g : Nat) (k0 : Int) (w : World) (hA : 0 < n → A = some ⟨g, 0, none⟩) (R : RowF w g n (fun j => k0 + j)) (hn : n ≤ 1048576) (h0 : 0 ≤ k0) (h1 : k0 ≤ 8388608) :
    Calls Tryz.prog 92 #[.slice A n c, .int .i64 k0] w fun e w' => e = .returned (.int .i64 (k0 + n)) ∧ w = w' := by
  have HN := Lib.hid hn
  have hn' : n ≤ 2 ^ 63 - 1 := by omega
  have HA := Lib.hid hA
  have HR := Lib.hid R
  clear hn hA R
  go_enter Tryz.func92, Tryz.ntmps92
  go_wp2
  go_loop [1, 5] (fun kk i => ∃ m : Nat, m ≤ n ∧ i = .int .i64 m ∧ kk = .int .i64 (k0 + m)) (fun _ i => n - (intOf i).toNat)
  case atStart => exact ⟨0, Nat.zero_le _, rfl, by simp⟩
  case round =>
    obtain ⟨m, hm, rfl, rfl⟩ := hrel
    by_cases hlt : m < n
    · obtain rfl := HA.out (by omega)
      obtain ⟨t0, f0⟩ := HR.out (m) (by omega)
      dsimp only at t0
      rw [show (k0 + ((m : Nat) : Int)) = k0 + (m : Int) by omega] at t0
      have hb := HN.out
      go_wp2
      exact ⟨⟨m + 1, by omega, by go_num, by congr 1; omega⟩, by simp [intOf]; omega⟩
    · obtain rfl : m = n := by omega
      go_wp2
      go_ret
      exact ⟨rfl, rfl⟩
set_option maxHeartbeats 1000000 in
theorem heldByteS_row (A : Option Addr) (n c g : Nat) (k0 : Int) (w : World) (hA : 0 < n → A = some ⟨g, 0, none⟩) (R : RowU w g n (markU k0)) (hn : n ≤ 1048576) (h0 : 0 ≤ k0) (h1 : k0 ≤ 8388608) :
    Calls Tryz.prog 54 #[.slice A n c, .int .i64 k0] w fun e w' => e = .returned (.int .i64 (k0 + n)) ∧ Below w.heap.size w w' := by
  have HN := Lib.hid hn
  have hn' : n ≤ 2 ^ 63 - 1 := by omega
  have HA := Lib.hid hA
  clear hn hA
  go_enter Tryz.func54, Tryz.ntmps54
  go_wp2
  go_loopw [1, 5] (fun kk i wr => ∃ m : Nat, m ≤ n ∧ i = .int .i64 m ∧ kk = .int .i64 (k0 + m) ∧ Below w.heap.size w wr ∧ RowU wr g n (markU k0)) (fun _ i _ => n - (intOf i).toNat)
  case atStart => exact ⟨0, Nat.zero_le _, rfl, by simp, Below.refl _ _, R⟩
  case round =>
    obtain ⟨m, hm, rfl, rfl, K, Y⟩ := hrel
    by_cases hlt : m < n
    · obtain rfl := HA.out (by omega)
      obtain ⟨t0, f0⟩ := Y m hlt
      have hb := HN.out
      unfold markU at t0
      go_wp2
      exact ⟨⟨m + 1, by omega, by go_num, by go_num, K, Y⟩, by simp [intOf]; omega⟩
    · obtain rfl : m = n := by omega
      go_wp2
      go_ret
      exact ⟨rfl, K⟩

end Go.Proofs.YtkefbmbjkijilaaGreatDoor
