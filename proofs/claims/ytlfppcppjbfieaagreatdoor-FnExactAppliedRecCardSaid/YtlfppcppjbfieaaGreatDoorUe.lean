/-
  Marks in the lists of a state.
-/
import Derived.Test.YtlfppcppjbfieaaGreatDoorUd
set_option linter.unusedVariables false
namespace Go.Proofs.YtlfppcppjbfieaaGreatDoor
open Go.RowKit

def m3 (k : Int) : Bool := k % 3 == 0
def mkPods (k : Int) (n : Nat) : List (Int × Int) := (List.range n).map fun (i : Nat) => (k + 2 * i, k + 2 * i + 1)
def mkMnts (k : Int) (n : Nat) : List (Bool × Int) := (List.range n).map fun (i : Nat) => (m3 (k + 2 * i), k + 2 * i + 1)
def mkDevs (k : Int) (n : Nat) : List Bool := (List.range n).map fun (i : Nat) => m3 (k + i)
def mkLks (k : Int) (n : Nat) : List Int := (List.range n).map fun (i : Nat) => k + i
theorem mkPods_len (k : Int) (n : Nat) : (mkPods k n).length = n := by simp [mkPods]
theorem mkMnts_len (k : Int) (n : Nat) : (mkMnts k n).length = n := by simp [mkMnts]
theorem mkDevs_len (k : Int) (n : Nat) : (mkDevs k n).length = n := by simp [mkDevs]
theorem mkLks_len (k : Int) (n : Nat) : (mkLks k n).length = n := by simp [mkLks]
theorem mkPods_at {k : Int} {n i : Nat} (h : i < n) : podA (mkPods k n) i = (k + 2 * i, k + 2 * i + 1) := by simp [podA, mkPods, List.getD, h]
theorem mkMnts_at {k : Int} {n i : Nat} (h : i < n) : mntA (mkMnts k n) i = (m3 (k + 2 * i), k + 2 * i + 1) := by simp [mntA, mkMnts, List.getD, h]
theorem mkDevs_at {k : Int} {n i : Nat} (h : i < n) : devA (mkDevs k n) i = m3 (k + i) := by simp [devA, mkDevs, List.getD, h]
theorem mkLks_at {k : Int} {n i : Nat} (h : i < n) : lkA (mkLks k n) i = k + i := by simp [lkA, mkLks, List.getD, h]
theorem lkCs_set (l : List Int) (i : Nat) (q : Int) : lkCs (l.set i q) = (lkCs l).set i (.int .i64 q) := by unfold lkCs; rw [List.map_set]
theorem getD_set_ {α : Type} (l : List α) (d x : α) (i j : Nat) (hi : i < l.length) : (l.set i x).getD j d = if j = i then x else l.getD j d := by
  simp only [List.getD]
  by_cases e : j = i
  · subst e
    simp [hi]
  · rw [if_neg e, List.getElem?_set_ne (fun h => e h.symm)]
theorem ext_getD {α : Type} {l m : List α} (d : α) (h : l.length = m.length) (e : ∀ j, j < l.length → l.getD j d = m.getD j d) : l = m := by
  refine List.ext_getElem h fun j hj hj' => ?_
  have := e j hj
  simpa [List.getD, hj, hj'] using this

set_option maxHeartbeats 1000000 in
theorem markPodAtS_any (A : Option Addr) (n c g : Nat) (k0 : Int) (l : List (Int × Int)) (w : World) (hl : l.length = n) (hA : 0 < n → A = some ⟨g, 0, none⟩) (R : RowV w g (podCs l)) (hn : n ≤ 1048576) (h0 : 0 ≤ k0) (h1 : k0 ≤ 8388608) :
    Calls Tryz.prog 53 #[.slice A n c, .int .i64 k0] w fun e w' => e = .returned (.int .i64 (k0 + 2 * n)) ∧ RowV w' g (podCs (mkPods k0 n)) ∧ Keeps (· = g) w w' := by
  have HN := Lib.hid hn
  have hn' : n ≤ 2 ^ 63 - 1 := by omega
  have HA := Lib.hid hA
  have HR := Lib.hid R
  have HLN := Lib.hid hl
  clear hn hA R hl
  go_enter Tryz.func53, Tryz.ntmps53
  go_wp2
  go_loopw [1, 5] (fun kk i wr => ∃ (m : Nat) (l : List (Int × Int)), m ≤ n ∧ i = .int .i64 m ∧ kk = .int .i64 (k0 + 2 * m) ∧ Hid (l.length = n) ∧ RowV wr g (podCs l) ∧ Hid (∀ j, j < m → podA l j = (k0 + 2 * j, k0 + 2 * j + 1)) ∧ Keeps (· = g) w wr) (fun _ i _ => n - (intOf i).toNat)
  case atStart => exact ⟨0, l, Nat.zero_le _, rfl, by simp, HLN, HR.out, Lib.hid (fun j hj => absurd hj (by omega)), Keeps.refl _ _⟩
  case round =>
    clear HR HLN
    obtain ⟨m, l, hm, rfl, rfl, HL, Y, HE, K⟩ := hrel
    by_cases hlt : m < n
    · obtain rfl := HA.out (by omega)
      have hml : m < l.length := by rw [HL.out]; exact hlt
      have y0 := Y (m * 2) (by rw [podCs_len, HL.out]; omega)
      have y1 := Y (m * 2 + 1) (by rw [podCs_len, HL.out]; omega)
      obtain ⟨p0, p1⟩ := podCs_at l hml
      rw [p0] at y0
      rw [p1] at y1
      obtain ⟨t0, f0⟩ := y0
      obtain ⟨t1, f1⟩ := y1
      have hb := HN.out
      have HY := Lib.hid Y
      have HML := Lib.hid hml
      clear Y p0 p1 hml
      generalize podA l m = r at *
      obtain ⟨r0, r1⟩ := r
      dsimp only at t0 t1
      go_wp2
      refine ⟨⟨m + 1, l.set m (k0 + 2 * m, k0 + 2 * m + 1), by omega, by go_num, by congr 1; omega, Lib.hid (by rw [List.length_set]; exact HL.out), ?_, Lib.hid fun j hj => ?_, (K.set rfl _).set rfl _⟩, by simp [intOf]; omega⟩
      · rw [podCs_set _ HML.out]
        exact (HY.out.set (i := m * 2) (by rw [podCs_len, HL.out]; omega) _).set (i := m * 2 + 1) (by rw [List.length_set, podCs_len, HL.out]; omega) _
      · have HE' := HE.out j
        unfold podA at HE' ⊢
        rw [getD_set_ _ _ _ _ _ HML.out]
        by_cases e : j = m
        · subst e; rw [if_pos rfl]
        · rw [if_neg e]; exact HE' (by omega)
    · obtain rfl : m = n := by omega
      have e9 : l = mkPods k0 m := ext_getD (0, 0) (by rw [HL.out, mkPods_len]) fun j hj => by
        have := HE.out j (by rw [← HL.out]; exact hj)
        unfold podA at this
        rw [this]
        exact (mkPods_at (k := k0) (n := m) (i := j) (by rw [← HL.out]; exact hj)).symm
      have HY := Lib.hid (e9 ▸ Y)
      clear Y e9
      go_wp2
      go_ret
      exact ⟨rfl, HY.out, K⟩
set_option maxHeartbeats 1000000 in
theorem heldPodAtS_any (A : Option Addr) (n c g : Nat) (k0 : Int) (w : World) (hA : 0 < n → A = some ⟨g, 0, none⟩) (R : RowV w g (podCs (mkPods k0 n))) (hn : n ≤ 1048576) (h0 : 0 ≤ k0) (h1 : k0 ≤ 8388608) :
    Calls Tryz.prog 56 #[.slice A n c, .int .i64 k0] w fun e w' => e = .returned (.int .i64 (k0 + 2 * n)) ∧ w = w' := by
  have HN := Lib.hid hn
  have hn' : n ≤ 2 ^ 63 - 1 := by omega
  have HA := Lib.hid hA
  have HR := Lib.hid R
  clear hn hA R
  go_enter Tryz.func56, Tryz.ntmps56
  go_wp2
  go_loop [1, 5] (fun kk i => ∃ m : Nat, m ≤ n ∧ i = .int .i64 m ∧ kk = .int .i64 (k0 + 2 * m)) (fun _ i => n - (intOf i).toNat)
  case atStart => exact ⟨0, Nat.zero_le _, rfl, by simp⟩
  case round =>
    obtain ⟨m, hm, rfl, rfl⟩ := hrel
    by_cases hlt : m < n
    · obtain rfl := HA.out (by omega)
      have hml : m < (mkPods k0 n).length := by rw [mkPods_len]; exact hlt
      obtain ⟨p0, p1⟩ := podCs_at (mkPods k0 n) hml
      have t0 := (HR.out (m * 2) (by rw [podCs_len, mkPods_len]; omega)).1.trans p0
      have t1 := (HR.out (m * 2 + 1) (by rw [podCs_len, mkPods_len]; omega)).1.trans p1
      rw [mkPods_at hlt] at t0 t1
      dsimp only at t0 t1
      have hb := HN.out
      clear p0 p1 hml
      skip
      go_wp2
      exact ⟨⟨m + 1, by omega, by go_num, by congr 1; omega⟩, by simp [intOf]; omega⟩
    · obtain rfl : m = n := by omega
      go_wp2
      go_ret
      exact ⟨rfl, rfl⟩

set_option maxHeartbeats 1000000 in
theorem markMountAtS_any (A : Option Addr) (n c g : Nat) (k0 : Int) (l : List (Bool × Int)) (w : World) (hl : l.length = n) (hA : 0 < n → A = some ⟨g, 0, none⟩) (R : RowV w g (mntCs l)) (hn : n ≤ 1048576) (h0 : 0 ≤ k0) (h1 : k0 ≤ 8388608) :
    Calls Tryz.prog 54 #[.slice A n c, .int .i64 k0] w fun e w' => e = .returned (.int .i64 (k0 + 2 * n)) ∧ RowV w' g (mntCs (mkMnts k0 n)) ∧ Keeps (· = g) w w' := by
  have HN := Lib.hid hn
  have hn' : n ≤ 2 ^ 63 - 1 := by omega
  have HA := Lib.hid hA
  have HR := Lib.hid R
  have HLN := Lib.hid hl
  clear hn hA R hl
  go_enter Tryz.func54, Tryz.ntmps54
  go_wp2
  go_loopw [1, 5] (fun kk i wr => ∃ (m : Nat) (l : List (Bool × Int)), m ≤ n ∧ i = .int .i64 m ∧ kk = .int .i64 (k0 + 2 * m) ∧ Hid (l.length = n) ∧ RowV wr g (mntCs l) ∧ Hid (∀ j, j < m → mntA l j = (m3 (k0 + 2 * j), k0 + 2 * j + 1)) ∧ Keeps (· = g) w wr) (fun _ i _ => n - (intOf i).toNat)
  case atStart => exact ⟨0, l, Nat.zero_le _, rfl, by simp, HLN, HR.out, Lib.hid (fun j hj => absurd hj (by omega)), Keeps.refl _ _⟩
  case round =>
    clear HR HLN
    obtain ⟨m, l, hm, rfl, rfl, HL, Y, HE, K⟩ := hrel
    by_cases hlt : m < n
    · obtain rfl := HA.out (by omega)
      have hml : m < l.length := by rw [HL.out]; exact hlt
      have y0 := Y (m * 2) (by rw [mntCs_len, HL.out]; omega)
      have y1 := Y (m * 2 + 1) (by rw [mntCs_len, HL.out]; omega)
      obtain ⟨p0, p1⟩ := mntCs_at l hml
      rw [p0] at y0
      rw [p1] at y1
      obtain ⟨t0, f0⟩ := y0
      obtain ⟨t1, f1⟩ := y1
      have hb := HN.out
      have HY := Lib.hid Y
      have HML := Lib.hid hml
      clear Y p0 p1 hml
      generalize mntA l m = r at *
      obtain ⟨r0, r1⟩ := r
      dsimp only at t0 t1
      go_wp2
      refine ⟨⟨m + 1, l.set m (m3 (k0 + 2 * m), k0 + 2 * m + 1), by omega, by go_num, by congr 1; omega, Lib.hid (by rw [List.length_set]; exact HL.out), ?_, Lib.hid fun j hj => ?_, (K.set rfl _).set rfl _⟩, by simp [intOf]; omega⟩
      · rw [mntCs_set _ HML.out]
        exact (HY.out.set (i := m * 2) (by rw [mntCs_len, HL.out]; omega) _).set (i := m * 2 + 1) (by rw [List.length_set, mntCs_len, HL.out]; omega) _
      · have HE' := HE.out j
        unfold mntA at HE' ⊢
        rw [getD_set_ _ _ _ _ _ HML.out]
        by_cases e : j = m
        · subst e; rw [if_pos rfl]
        · rw [if_neg e]; exact HE' (by omega)
    · obtain rfl : m = n := by omega
      have e9 : l = mkMnts k0 m := ext_getD (false, 0) (by rw [HL.out, mkMnts_len]) fun j hj => by
        have := HE.out j (by rw [← HL.out]; exact hj)
        unfold mntA at this
        rw [this]
        exact (mkMnts_at (k := k0) (n := m) (i := j) (by rw [← HL.out]; exact hj)).symm
      have HY := Lib.hid (e9 ▸ Y)
      clear Y e9
      go_wp2
      go_ret
      exact ⟨rfl, HY.out, K⟩
set_option maxHeartbeats 1000000 in
theorem heldMountAtS_any (A : Option Addr) (n c g : Nat) (k0 : Int) (w : World) (hA : 0 < n → A = some ⟨g, 0, none⟩) (R : RowV w g (mntCs (mkMnts k0 n))) (hn : n ≤ 1048576) (h0 : 0 ≤ k0) (h1 : k0 ≤ 8388608) :
    Calls Tryz.prog 57 #[.slice A n c, .int .i64 k0] w fun e w' => e = .returned (.int .i64 (k0 + 2 * n)) ∧ w = w' := by
  have HN := Lib.hid hn
  have hn' : n ≤ 2 ^ 63 - 1 := by omega
  have HA := Lib.hid hA
  have HR := Lib.hid R
  clear hn hA R
  go_enter Tryz.func57, Tryz.ntmps57
  go_wp2
  go_loop [1, 5] (fun kk i => ∃ m : Nat, m ≤ n ∧ i = .int .i64 m ∧ kk = .int .i64 (k0 + 2 * m)) (fun _ i => n - (intOf i).toNat)
  case atStart => exact ⟨0, Nat.zero_le _, rfl, by simp⟩
  case round =>
    obtain ⟨m, hm, rfl, rfl⟩ := hrel
    by_cases hlt : m < n
    · obtain rfl := HA.out (by omega)
      have hml : m < (mkMnts k0 n).length := by rw [mkMnts_len]; exact hlt
      obtain ⟨p0, p1⟩ := mntCs_at (mkMnts k0 n) hml
      have t0 := (HR.out (m * 2) (by rw [mntCs_len, mkMnts_len]; omega)).1.trans p0
      have t1 := (HR.out (m * 2 + 1) (by rw [mntCs_len, mkMnts_len]; omega)).1.trans p1
      rw [mkMnts_at hlt] at t0 t1
      dsimp only at t0 t1
      have hb := HN.out
      clear p0 p1 hml
      unfold m3 at t0
      go_wp2
      exact ⟨⟨m + 1, by omega, by go_num, by congr 1; omega⟩, by simp [intOf]; omega⟩
    · obtain rfl : m = n := by omega
      go_wp2
      go_ret
      exact ⟨rfl, rfl⟩

set_option maxHeartbeats 1000000 in
theorem markBoolS_any (A : Option Addr) (n c g : Nat) (k0 : Int) (l : List Bool) (w : World) (hl : l.length = n) (hA : 0 < n → A = some ⟨g, 0, none⟩) (R : RowV w g (devCs l)) (hn : n ≤ 1048576) (h0 : 0 ≤ k0) (h1 : k0 ≤ 8388608) :
    Calls Tryz.prog 55 #[.slice A n c, .int .i64 k0] w fun e w' => e = .returned (.int .i64 (k0 + n)) ∧ RowV w' g (devCs (mkDevs k0 n)) ∧ Keeps (· = g) w w' := by
  have HN := Lib.hid hn
  have hn' : n ≤ 2 ^ 63 - 1 := by omega
  have HA := Lib.hid hA
  have HR := Lib.hid R
  have HLN := Lib.hid hl
  clear hn hA R hl
  go_enter Tryz.func55, Tryz.ntmps55
  go_wp2
  go_loopw [1, 5] (fun kk i wr => ∃ (m : Nat) (l : List Bool), m ≤ n ∧ i = .int .i64 m ∧ kk = .int .i64 (k0 + m) ∧ Hid (l.length = n) ∧ RowV wr g (devCs l) ∧ Hid (∀ j, j < m → devA l j = m3 (k0 + j)) ∧ Keeps (· = g) w wr) (fun _ i _ => n - (intOf i).toNat)
  case atStart => exact ⟨0, l, Nat.zero_le _, rfl, by simp, HLN, HR.out, Lib.hid (fun j hj => absurd hj (by omega)), Keeps.refl _ _⟩
  case round =>
    clear HR HLN
    obtain ⟨m, l, hm, rfl, rfl, HL, Y, HE, K⟩ := hrel
    by_cases hlt : m < n
    · obtain rfl := HA.out (by omega)
      have hml : m < l.length := by rw [HL.out]; exact hlt
      have y0 := Y m (by rw [devCs_len, HL.out]; omega)
      rw [devCs_at l hml] at y0
      obtain ⟨t0, f0⟩ := y0
      have hb := HN.out
      have HY := Lib.hid Y
      have HML := Lib.hid hml
      clear Y hml
      generalize devA l m = r at *
      go_wp2
      refine ⟨⟨m + 1, l.set m (m3 (k0 + m)), by omega, by go_num, by go_num, Lib.hid (by rw [List.length_set]; exact HL.out), ?_, Lib.hid fun j hj => ?_, K.set rfl _⟩, by simp [intOf]; omega⟩
      · rw [devCs_set]
        exact HY.out.set (i := m) (by rw [devCs_len, HL.out]; omega) _
      · have HE' := HE.out j
        unfold devA at HE' ⊢
        rw [getD_set_ _ _ _ _ _ HML.out]
        by_cases e : j = m
        · subst e; rw [if_pos rfl]
        · rw [if_neg e]; exact HE' (by omega)
    · obtain rfl : m = n := by omega
      have e9 : l = mkDevs k0 m := ext_getD false (by rw [HL.out, mkDevs_len]) fun j hj => by
        have := HE.out j (by rw [← HL.out]; exact hj)
        unfold devA at this
        rw [this]
        exact (mkDevs_at (k := k0) (n := m) (i := j) (by rw [← HL.out]; exact hj)).symm
      have HY := Lib.hid (e9 ▸ Y)
      clear Y e9
      go_wp2
      go_ret
      exact ⟨rfl, HY.out, K⟩
set_option maxHeartbeats 1000000 in
theorem heldBoolS_any (A : Option Addr) (n c g : Nat) (k0 : Int) (w : World) (hA : 0 < n → A = some ⟨g, 0, none⟩) (R : RowV w g (devCs (mkDevs k0 n))) (hn : n ≤ 1048576) (h0 : 0 ≤ k0) (h1 : k0 ≤ 8388608) :
    Calls Tryz.prog 58 #[.slice A n c, .int .i64 k0] w fun e w' => e = .returned (.int .i64 (k0 + n)) ∧ w = w' := by
  have HN := Lib.hid hn
  have hn' : n ≤ 2 ^ 63 - 1 := by omega
  have HA := Lib.hid hA
  have HR := Lib.hid R
  clear hn hA R
  go_enter Tryz.func58, Tryz.ntmps58
  go_wp2
  go_loop [1, 5] (fun kk i => ∃ m : Nat, m ≤ n ∧ i = .int .i64 m ∧ kk = .int .i64 (k0 + m)) (fun _ i => n - (intOf i).toNat)
  case atStart => exact ⟨0, Nat.zero_le _, rfl, by simp⟩
  case round =>
    obtain ⟨m, hm, rfl, rfl⟩ := hrel
    by_cases hlt : m < n
    · obtain rfl := HA.out (by omega)
      have hml : m < (mkDevs k0 n).length := by rw [mkDevs_len]; exact hlt
      have t0 := (HR.out m (by rw [devCs_len, mkDevs_len]; omega)).1.trans (devCs_at (mkDevs k0 n) hml)
      rw [mkDevs_at hlt] at t0
      have hb := HN.out
      clear hml
      unfold m3 at t0
      go_wp2
      exact ⟨⟨m + 1, by omega, by go_num, by go_num⟩, by simp [intOf]; omega⟩
    · obtain rfl : m = n := by omega
      go_wp2
      go_ret
      exact ⟨rfl, rfl⟩

set_option maxHeartbeats 1000000 in
theorem markInts_any (A : Option Addr) (n c g : Nat) (k0 : Int) (l : List Int) (w : World) (hl : l.length = n) (hA : 0 < n → A = some ⟨g, 0, none⟩) (R : RowV w g (lkCs l)) (hn : n ≤ 1048576) (h0 : 0 ≤ k0) (h1 : k0 ≤ 8388608) :
    Calls Tryz.prog 50 #[.slice A n c, .int .i64 k0] w fun e w' => e = .returned (.int .i64 (k0 + n)) ∧ RowV w' g (lkCs (mkLks k0 n)) ∧ Keeps (· = g) w w' := by
  have HN := Lib.hid hn
  have hn' : n ≤ 2 ^ 63 - 1 := by omega
  have HA := Lib.hid hA
  have HR := Lib.hid R
  have HLN := Lib.hid hl
  clear hn hA R hl
  go_enter Tryz.func50, Tryz.ntmps50
  go_wp2
  go_loopw [1, 5] (fun kk i wr => ∃ (m : Nat) (l : List Int), m ≤ n ∧ i = .int .i64 m ∧ kk = .int .i64 (k0 + m) ∧ Hid (l.length = n) ∧ RowV wr g (lkCs l) ∧ Hid (∀ j, j < m → lkA l j = k0 + j) ∧ Keeps (· = g) w wr) (fun _ i _ => n - (intOf i).toNat)
  case atStart => exact ⟨0, l, Nat.zero_le _, rfl, by simp, HLN, HR.out, Lib.hid (fun j hj => absurd hj (by omega)), Keeps.refl _ _⟩
  case round =>
    clear HR HLN
    obtain ⟨m, l, hm, rfl, rfl, HL, Y, HE, K⟩ := hrel
    by_cases hlt : m < n
    · obtain rfl := HA.out (by omega)
      have hml : m < l.length := by rw [HL.out]; exact hlt
      have y0 := Y m (by rw [lkCs_len, HL.out]; omega)
      rw [lkCs_at l hml] at y0
      obtain ⟨t0, f0⟩ := y0
      have hb := HN.out
      have HY := Lib.hid Y
      have HML := Lib.hid hml
      clear Y hml
      generalize lkA l m = r at *
      go_wp2
      refine ⟨⟨m + 1, l.set m (k0 + m), by omega, by go_num, by go_num, Lib.hid (by rw [List.length_set]; exact HL.out), ?_, Lib.hid fun j hj => ?_, K.set rfl _⟩, by simp [intOf]; omega⟩
      · rw [lkCs_set]
        exact HY.out.set (i := m) (by rw [lkCs_len, HL.out]; omega) _
      · have HE' := HE.out j
        unfold lkA at HE' ⊢
        rw [getD_set_ _ _ _ _ _ HML.out]
        by_cases e : j = m
        · subst e; rw [if_pos rfl]
        · rw [if_neg e]; exact HE' (by omega)
    · obtain rfl : m = n := by omega
      have e9 : l = mkLks k0 m := ext_getD 0 (by rw [HL.out, mkLks_len]) fun j hj => by
        have := HE.out j (by rw [← HL.out]; exact hj)
        unfold lkA at this
        rw [this]
        exact (mkLks_at (k := k0) (n := m) (i := j) (by rw [← HL.out]; exact hj)).symm
      have HY := Lib.hid (e9 ▸ Y)
      clear Y e9
      go_wp2
      go_ret
      exact ⟨rfl, HY.out, K⟩
set_option maxHeartbeats 1000000 in
theorem heldInts_any (A : Option Addr) (n c g : Nat) (k0 : Int) (w : World) (hA : 0 < n → A = some ⟨g, 0, none⟩) (R : RowV w g (lkCs (mkLks k0 n))) (hn : n ≤ 1048576) (h0 : 0 ≤ k0) (h1 : k0 ≤ 8388608) :
    Calls Tryz.prog 59 #[.slice A n c, .int .i64 k0] w fun e w' => e = .returned (.int .i64 (k0 + n)) ∧ w = w' := by
  have HN := Lib.hid hn
  have hn' : n ≤ 2 ^ 63 - 1 := by omega
  have HA := Lib.hid hA
  have HR := Lib.hid R
  clear hn hA R
  go_enter Tryz.func59, Tryz.ntmps59
  go_wp2
  go_loop [1, 5] (fun kk i => ∃ m : Nat, m ≤ n ∧ i = .int .i64 m ∧ kk = .int .i64 (k0 + m)) (fun _ i => n - (intOf i).toNat)
  case atStart => exact ⟨0, Nat.zero_le _, rfl, by simp⟩
  case round =>
    obtain ⟨m, hm, rfl, rfl⟩ := hrel
    by_cases hlt : m < n
    · obtain rfl := HA.out (by omega)
      have hml : m < (mkLks k0 n).length := by rw [mkLks_len]; exact hlt
      have t0 := (HR.out m (by rw [lkCs_len, mkLks_len]; omega)).1.trans (lkCs_at (mkLks k0 n) hml)
      rw [mkLks_at hlt] at t0
      have hb := HN.out
      clear hml
      skip
      go_wp2
      exact ⟨⟨m + 1, by omega, by go_num, by go_num⟩, by simp [intOf]; omega⟩
    · obtain rfl : m = n := by omega
      go_wp2
      go_ret
      exact ⟨rfl, rfl⟩
end Go.Proofs.YtlfppcppjbfieaaGreatDoor
