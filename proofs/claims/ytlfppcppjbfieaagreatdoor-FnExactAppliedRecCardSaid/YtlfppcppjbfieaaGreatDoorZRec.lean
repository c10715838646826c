/-
  PROVED: FnExactAppliedRecCardSaid: of every plan, every state and every record AppliedRec answers as its model; its answer is new memory; the arguments stay. Conditions: none beside the form's own (the one listed table lies as the program's text lays it: the card's tie).
-/
import Derived.Test.YtlfppcppjbfieaaGreatDoorPjA
import Derived.Test.YtlfppcppjbfieaaGreatDoorUf
import Derived.Test.YtlfppcppjbfieaaGreatDoorBa
import Derived.BigQuiet
import Derived.Deep.QuietTactic
import Derived.Deep.RegionHeld3
import Derived.Test.YtlfppcppjbfieaaGreatDoorUi
import Derived.Test.YtlfppcppjbfieaaGreatDoorWc
import Derived.Test.YtlfppcppjbfieaaGreatDoorXj
import Derived.Test.YtlfppcppjbfieaaGreatDoorUv
import Derived.Test.YtlfppcppjbfieaaGreatDoorA1
import Derived.ProofKit
import Derived.Deep.Slices
import Derived.Deep.Fields
import Derived.ChangeSame
import Derived.JoinedOf
import Derived.Test.YtlfppcppjbfieaaGreatDoorPf
import Derived.Test.YtlfppcppjbfieaaGreatDoorUd
import Derived.Test.YtlfppcppjbfieaaGreatDoorBb
import Derived.ChangeVars
import Derived.LaidLaws
import Derived.OpenShut
import Derived.RowKitTokens
import Derived.WalkSmall
import Derived.Test.YtlfppcppjbfieaaGreatDoorCards
import Derived.Test.YtlfppcppjbfieaaGreatDoorTie
import Derived.SevenTiedAt
import Derived.OpenVars
/- Pk -/
set_option linter.unusedVariables false
namespace Go.Proofs.YtlfppcppjbfieaaGreatDoor
open Go.RowKit

set_option maxHeartbeats 1000000 in
theorem markInt64S_any (A : Option Addr) (n c g : Nat) (k0 : Int) (x : Nat → Int) (w : World) (hA : 0 < n → A = some ⟨g, 0, none⟩) (R : RowF w g n x) (hn : n ≤ 1048576) (h0 : 0 ≤ k0) (h1 : k0 ≤ 8388608) :
    Calls Tryz.prog 50 #[.slice A n c, .int .i64 k0] w fun e w' => e = .returned (.int .i64 (k0 + n)) ∧ RowF w' g n (fun j => k0 + j) ∧ Keeps (· = g) w w' := by
  have HN := Lib.hid hn
  have hn' : n ≤ 2 ^ 63 - 1 := by omega
  have HA := Lib.hid hA
  clear hn hA
  go_enter Tryz.func50, Tryz.ntmps50
  go_wp2
  go_loopw [1, 5] (fun kk i wr => ∃ m : Nat, m ≤ n ∧ i = .int .i64 m ∧ kk = .int .i64 (k0 + m) ∧ RowF wr g n (fun j => if j < m then k0 + j else x j) ∧ Keeps (· = g) w wr) (fun _ i _ => n - (intOf i).toNat)
  case atStart => exact ⟨0, Nat.zero_le _, rfl, by simp, R.congr fun j _ => by simp, Keeps.refl _ _⟩
  case round =>
    obtain ⟨m, hm, rfl, rfl, Y, K⟩ := hrel
    by_cases hlt : m < n
    · obtain rfl := HA.out (by omega)
      obtain ⟨t0, f0⟩ := Y m hlt
      have hb := HN.out
      go_wp2
      refine ⟨⟨m + 1, by omega, by go_num, by go_num, ?_, K.set rfl _⟩, by simp [intOf]; omega⟩
      refine (Y.set (i := m) (k0 + m)).congr fun j hj => ?_
      by_cases e : j = m
      · subst e; simp
      · simp only [if_neg e]
        by_cases e' : j < m
        · rw [if_pos e', if_pos (by omega)]
        · rw [if_neg e', if_neg (by omega)]
    · obtain rfl : m = n := by omega
      go_wp2
      go_ret
      exact ⟨rfl, Y.congr fun j hj => if_pos hj, K⟩

set_option maxHeartbeats 1000000 in
theorem heldInt64S_any (A : Option Addr) (n c g : Nat) (k0 : Int) (w : World) (hA : 0 < n → A = some ⟨g, 0, none⟩) (R : RowF w g n (fun j => k0 + j)) (hn : n ≤ 1048576) (h0 : 0 ≤ k0) (h1 : k0 ≤ 8388608) :
    Calls Tryz.prog 59 #[.slice A n c, .int .i64 k0] w fun e w' => e = .returned (.int .i64 (k0 + n)) ∧ Below w.heap.size w w' := by
  have HN := Lib.hid hn
  have hn' : n ≤ 2 ^ 63 - 1 := by omega
  have HA := Lib.hid hA
  clear hn hA
  go_enter Tryz.func59, Tryz.ntmps59
  go_wp2
  go_loopw [1, 5] (fun kk i wr => ∃ m : Nat, m ≤ n ∧ i = .int .i64 m ∧ kk = .int .i64 (k0 + m) ∧ Below w.heap.size w wr ∧ RowF wr g n (fun j => k0 + j)) (fun _ i _ => n - (intOf i).toNat)
  case atStart => exact ⟨0, Nat.zero_le _, rfl, by simp, Below.refl _ _, R⟩
  case round =>
    obtain ⟨m, hm, rfl, rfl, K, Y⟩ := hrel
    by_cases hlt : m < n
    · obtain rfl := HA.out (by omega)
      obtain ⟨t0, f0⟩ := Y m hlt
      have hb := HN.out
      go_wp2
      exact ⟨⟨m + 1, by omega, by go_num, by go_num, K, Y⟩, by simp [intOf]; omega⟩
    · obtain rfl : m = n := by omega
      go_wp2
      go_ret
      exact ⟨rfl, K⟩

set_option maxHeartbeats 1000000 in
theorem markPodS_any (A : Option Addr) (n c g : Nat) (k0 : Int) (x : Nat → Int) (w : World) (hA : 0 < n → A = some ⟨g, 0, none⟩) (R : RowF w g (n * 4) x) (hn : n ≤ 1048576) (h0 : 0 ≤ k0) (h1 : k0 ≤ 8388608) :
    Calls Tryz.prog 49 #[.slice A n c, .int .i64 k0] w fun e w' => e = .returned (.int .i64 (k0 + 4 * n)) ∧ Keeps (· = g) w w' := by
  have HN := Lib.hid hn
  have hn' : n ≤ 2 ^ 63 - 1 := by omega
  have HA := Lib.hid hA
  clear hn hA
  go_enter Tryz.func49, Tryz.ntmps49
  go_wp2
  go_loopw [1, 5] (fun kk i wr => ∃ m : Nat, m ≤ n ∧ i = .int .i64 m ∧ kk = .int .i64 (k0 + 4 * m) ∧ Ints wr g (n * 4) ∧ Keeps (· = g) w wr) (fun _ i _ => n - (intOf i).toNat)
  case atStart => exact ⟨0, Nat.zero_le _, rfl, by simp, ⟨x, R⟩, Keeps.refl _ _⟩
  case round =>
    obtain ⟨m, hm, rfl, rfl, Y, K⟩ := hrel
    by_cases hlt : m < n
    · obtain rfl := HA.out (by omega)
      obtain ⟨v0, t0, f0⟩ := Y.at_ (j := m * 4) (by omega)
      obtain ⟨v1, t1, f1⟩ := Y.at_ (j := m * 4 + 1) (by omega)
      obtain ⟨v2, t2, f2⟩ := Y.at_ (j := m * 4 + 2) (by omega)
      obtain ⟨v3, t3, f3⟩ := Y.at_ (j := m * 4 + 3) (by omega)
      have hb := HN.out
      go_wp2
      exact ⟨⟨m + 1, by omega, by go_num, by congr 1; omega, Y.set.set.set.set, (((K.set rfl _).set rfl _).set rfl _).set rfl _⟩, by simp [intOf]; omega⟩
    · obtain rfl : m = n := by omega
      go_wp2
      go_ret
      exact ⟨rfl, K⟩

set_option maxHeartbeats 1000000 in
theorem markMountS_any (A : Option Addr) (n c g : Nat) (k0 : Int) (x : Nat → Int) (w : World) (hA : 0 < n → A = some ⟨g, 0, none⟩) (R : RowF w g (n * 2) x) (hn : n ≤ 1048576) (h0 : 0 ≤ k0) (h1 : k0 ≤ 8388608) :
    Calls Tryz.prog 51 #[.slice A n c, .int .i64 k0] w fun e w' => e = .returned (.int .i64 (k0 + 2 * n)) ∧ Keeps (· = g) w w' := by
  have HN := Lib.hid hn
  have hn' : n ≤ 2 ^ 63 - 1 := by omega
  have HA := Lib.hid hA
  clear hn hA
  go_enter Tryz.func51, Tryz.ntmps51
  go_wp2
  go_loopw [1, 5] (fun kk i wr => ∃ m : Nat, m ≤ n ∧ i = .int .i64 m ∧ kk = .int .i64 (k0 + 2 * m) ∧ Ints wr g (n * 2) ∧ Keeps (· = g) w wr) (fun _ i _ => n - (intOf i).toNat)
  case atStart => exact ⟨0, Nat.zero_le _, rfl, by simp, ⟨x, R⟩, Keeps.refl _ _⟩
  case round =>
    obtain ⟨m, hm, rfl, rfl, Y, K⟩ := hrel
    by_cases hlt : m < n
    · obtain rfl := HA.out (by omega)
      obtain ⟨v0, t0, f0⟩ := Y.at_ (j := m * 2) (by omega)
      obtain ⟨v1, t1, f1⟩ := Y.at_ (j := m * 2 + 1) (by omega)
      have hb := HN.out
      go_wp2
      exact ⟨⟨m + 1, by omega, by go_num, by congr 1; omega, Y.set.set, (K.set rfl _).set rfl _⟩, by simp [intOf]; omega⟩
    · obtain rfl : m = n := by omega
      go_wp2
      go_ret
      exact ⟨rfl, K⟩

set_option maxHeartbeats 1000000 in
theorem markDeviceS_any (A : Option Addr) (n c g : Nat) (k0 : Int) (x : Nat → Int) (w : World) (hA : 0 < n → A = some ⟨g, 0, none⟩) (R : RowF w g (n) x) (hn : n ≤ 1048576) (h0 : 0 ≤ k0) (h1 : k0 ≤ 8388608) :
    Calls Tryz.prog 52 #[.slice A n c, .int .i64 k0] w fun e w' => e = .returned (.int .i64 (k0 + n)) ∧ Keeps (· = g) w w' := by
  have HN := Lib.hid hn
  have hn' : n ≤ 2 ^ 63 - 1 := by omega
  have HA := Lib.hid hA
  clear hn hA
  go_enter Tryz.func52, Tryz.ntmps52
  go_wp2
  go_loopw [1, 5] (fun kk i wr => ∃ m : Nat, m ≤ n ∧ i = .int .i64 m ∧ kk = .int .i64 (k0 + m) ∧ Ints wr g (n) ∧ Keeps (· = g) w wr) (fun _ i _ => n - (intOf i).toNat)
  case atStart => exact ⟨0, Nat.zero_le _, rfl, by simp, ⟨x, R⟩, Keeps.refl _ _⟩
  case round =>
    obtain ⟨m, hm, rfl, rfl, Y, K⟩ := hrel
    by_cases hlt : m < n
    · obtain rfl := HA.out (by omega)
      obtain ⟨v0, t0, f0⟩ := Y.at_ (j := m) (by omega)
      have hb := HN.out
      go_wp2
      exact ⟨⟨m + 1, by omega, by go_num, by congr 1; omega, Y.set, K.set rfl _⟩, by simp [intOf]; omega⟩
    · obtain rfl : m = n := by omega
      go_wp2
      go_ret
      exact ⟨rfl, K⟩

/-- Marked: some number from 0 on is answered; only the blocks that S tells have turned. -/
def Marked (S : Nat → Prop) (w : World) (e : Ending) (w' : World) : Prop := (∃ k : Nat, e = .returned (.int .i64 k)) ∧ Keeps S w w'

set_option maxRecDepth 100000 in
set_option maxHeartbeats 2000000 in
theorem markPlan_any (d : PlanD) (g0 g1 g2 g3 : Nat) (w0 w : World) (h : NewPlan w0 w d g0 g1 g2 g3) (h0 : d.n0 ≤ 1048576) (h1 : d.n1 ≤ 1048576) (h2 : d.n2 ≤ 1048576) (h3 : d.n3 ≤ 1048576) :
    Calls Tryz.prog 14 #[newPlanV d g0 g1 g2 g3, .int .i64 1] w (Marked (fun b => g0 ≤ b ∧ b ≤ g3) w) := by
  obtain ⟨l0, l1, l2, l3, l4, R0, R1, R2, R3⟩ := h
  obtain ⟨n0, n1, n2, n3, x0, x1, x2, x3, l, p, t⟩ := d
  dsimp only at *
  have H0 := Lib.hid h0
  have H1 := Lib.hid h1
  have H2 := Lib.hid h2
  have H3 := Lib.hid h3
  clear h0 h1 h2 h3
  have b0 : (n0 : Int) ≤ 1048576 := by have := H0.out; omega
  have b1 : (n1 : Int) ≤ 1048576 := by have := H1.out; omega
  have b2 : (n2 : Int) ≤ 1048576 := by have := H2.out; omega
  have b3 : (n3 : Int) ≤ 1048576 := by have := H3.out; omega
  go_enter Tryz.func14, Tryz.ntmps14
  go_wp2_with fail
  have X := cell_new w (planC (some ⟨g0, 0, none⟩) (some ⟨g1, 0, none⟩) (some ⟨g2, 0, none⟩) (some ⟨g3, 0, none⟩) n0 n0 n1 n1 n2 n2 n3 n3 l p t) 47
  have A1 := (Below.refl w.heap.size w).alloc (Nat.le_refl _) (.cells (planC (some ⟨g0, 0, none⟩) (some ⟨g1, 0, none⟩) (some ⟨g2, 0, none⟩) (some ⟨g3, 0, none⟩) n0 n0 n1 n1 n2 n2 n3 n3 l p t) 47)
  have K1 : Keeps (fun b => g0 ≤ b ∧ b ≤ g3) w _ := Keeps.of_below A1
  have R0 := R0.below A1 (by omega)
  have R1 := R1.below A1 (by omega)
  have R2 := R2.below A1 (by omega)
  have R3 := R3.below A1 (by omega)
  have z1 : w.heap.size < (w.alloc (.cells (planC (some ⟨g0, 0, none⟩) (some ⟨g1, 0, none⟩) (some ⟨g2, 0, none⟩) (some ⟨g3, 0, none⟩) n0 n0 n1 n1 n2 n2 n3 n3 l p t) 47)).heap.size := by simp
  refine (markPodS_any _ n0 _ g0 _ x0 _ (fun _ => rfl) R0 H0.out (by omega) (by omega)).mono ?_
  rintro e w2 ⟨rfl, k⟩
  have hC2 : ∀ o, w2.cell? ⟨w.heap.size, o, none⟩ = _ := fun o => (k.cell (p := ⟨w.heap.size, o, none⟩) z1 (by show ¬ w.heap.size = g0; omega)).trans (X o)
  have R1 := R1.keeps k (by omega) (by omega)
  have R2 := R2.keeps k (by omega) (by omega)
  have R3 := R3.keeps k (by omega) (by omega)
  have K2 := K1.trans (k.mono (T := fun b => g0 ≤ b ∧ b ≤ g3) (by rintro b rfl; omega))
  have z2 := Nat.lt_of_lt_of_le z1 k.size
  clear X A1 K1 R0 z1 k
  go_wp2_with fail
  refine (markInt64S_any _ n1 _ g1 _ x1 _ (fun _ => rfl) R1 H1.out (by omega) (by omega)).mono ?_
  rintro e w3 ⟨rfl, -, k⟩
  have hC3 : ∀ o, w3.cell? ⟨w.heap.size, o, none⟩ = _ := fun o => (k.cell (p := ⟨w.heap.size, o, none⟩) z2 (by show ¬ w.heap.size = g1; omega)).trans (hC2 o)
  have R2 := R2.keeps k (by omega) (by omega)
  have R3 := R3.keeps k (by omega) (by omega)
  have K3 := K2.trans (k.mono (T := fun b => g0 ≤ b ∧ b ≤ g3) (by rintro b rfl; omega))
  have z3 := Nat.lt_of_lt_of_le z2 k.size
  clear hC2 K2 R1 z2 k
  go_wp2_with fail
  refine (markMountS_any _ n2 _ g2 _ x2 _ (fun _ => rfl) R2 H2.out (by omega) (by omega)).mono ?_
  rintro e w4 ⟨rfl, k⟩
  have hC4 : ∀ o, w4.cell? ⟨w.heap.size, o, none⟩ = _ := fun o => (k.cell (p := ⟨w.heap.size, o, none⟩) z3 (by show ¬ w.heap.size = g2; omega)).trans (hC3 o)
  have R3 := R3.keeps k (by omega) (by omega)
  have K4 := K3.trans (k.mono (T := fun b => g0 ≤ b ∧ b ≤ g3) (by rintro b rfl; omega))
  have z4 := Nat.lt_of_lt_of_le z3 k.size
  clear hC3 K3 R2 z3 k
  go_wp2_with fail
  refine (markDeviceS_any _ n3 _ g3 _ x3 _ (fun _ => rfl) R3 H3.out (by omega) (by omega)).mono ?_
  rintro e w5 ⟨rfl, k⟩
  have K5 := K4.trans (k.mono (T := fun b => g0 ≤ b ∧ b ≤ g3) (by rintro b rfl; omega))
  clear hC4 K4 R3 z4 k
  go_wp2_with fail
  go_ret
  exact ⟨⟨1 + 4 * n0 + n1 + 2 * n2 + n3, ret_int (by omega)⟩, K5⟩
end Go.Proofs.YtlfppcppjbfieaaGreatDoor
/- PmA -/
set_option linter.unusedVariables false
namespace Go.Proofs.YtlfppcppjbfieaaGreatDoor
open Go.RowKit
theorem found_le (d : PlanD) (n : Nat) (f : Nat → Int) (wanted : Int) : (found d n f wanted).length ≤ n := by
  unfold found
  split
  · exact hits_le _ _ _
  · exact Nat.zero_le _

theorem NewPlan.below {w0 w w' : World} {d : PlanD} {g0 g1 g2 g3 : Nat} (h : NewPlan w0 w d g0 g1 g2 g3) (hb : Below w.heap.size w w') : NewPlan w0 w' d g0 g1 g2 g3 := by
  obtain ⟨l0, l1, l2, l3, l4, R0, R1, R2, R3⟩ := h
  exact ⟨l0, l1, l2, l3, Nat.lt_of_lt_of_le l4 hb.size, R0.below hb (by omega), R1.below hb (by omega), R2.below hb (by omega), R3.below hb (by omega)⟩

end Go.Proofs.YtlfppcppjbfieaaGreatDoor
/- Vd -/
set_option linter.unusedVariables false
namespace Go.Proofs.YtlfppcppjbfieaaGreatDoor
open Go.RowKit

theorem slv_of_row {w : World} {B k n g : Nat} {A : Option Addr} {xs : List Value} (hA : 0 < n → A = some ⟨g, 0, none⟩) (hz : 0 < n → g < B) (R : RowV w g xs) (hl : xs.length = n * k) : SlV w B k A n xs :=
  ⟨hl, fun hn => ⟨g, 0, hA hn, hz hn, fun j hj => by rw [Nat.zero_add]; exact (R j (by omega)).1⟩⟩
theorem Rows4.is {w : World} {v : Value} {s : StD} {g0 g1 g2 g3 : Nat} (h : Rows4 w v s g0 g1 g2 g3) (hf : StFits s 1048576) : IsSt w w.heap.size v s := by
  obtain ⟨⟨A0, A1, A2, A3, c0, c1, c2, c3, hv, a0, a1, a2, a3⟩, z0, R0, z1, R1, z2, R2, z3, R3, -, -, -, -, -, -⟩ := h
  obtain ⟨f0, f1, f2, f3⟩ := hf
  have hm : 1048576 ≤ maxLen := by unfold maxLen; decide
  exact ⟨⟨A0, A1, A2, A3, c0, c1, c2, c3, hv, slv_of_row a0 z0 R0 (podCs_len _), slv_of_row a1 z1 R1 (mntCs_len _), slv_of_row a2 z2 R2 (devCs_len _), slv_of_row a3 z3 R3 (lkCs_len _)⟩, by omega, by omega, by omega, by omega⟩
theorem Rows4.keeps {S : Nat → Prop} {w w' : World} {v : Value} {s : StD} {g0 g1 g2 g3 : Nat} (h : Rows4 w v s g0 g1 g2 g3) (k : Keeps S w w') (n0 : 0 < s.pods.length → ¬ S g0) (n1 : 0 < s.mnts.length → ¬ S g1) (n2 : 0 < s.devs.length → ¬ S g2) (n3 : 0 < s.lks.length → ¬ S g3) : Rows4 w' v s g0 g1 g2 g3 := by
  obtain ⟨hv, z0, R0, z1, R1, z2, R2, z3, R3, d01, d02, d03, d12, d13, d23⟩ := h
  have e0 : (podCs s.pods).length = s.pods.length * 2 := podCs_len _
  have e1 : (mntCs s.mnts).length = s.mnts.length * 2 := mntCs_len _
  have e2 : (devCs s.devs).length = s.devs.length * 1 := devCs_len _
  have e3 : (lkCs s.lks).length = s.lks.length * 1 := lkCs_len _
  exact ⟨hv, fun h => Nat.lt_of_lt_of_le (z0 h) k.size, fun j hj => RowV.keeps R0 k (z0 (by omega)) (n0 (by omega)) j hj, fun h => Nat.lt_of_lt_of_le (z1 h) k.size, fun j hj => RowV.keeps R1 k (z1 (by omega)) (n1 (by omega)) j hj,
    fun h => Nat.lt_of_lt_of_le (z2 h) k.size, fun j hj => RowV.keeps R2 k (z2 (by omega)) (n2 (by omega)) j hj, fun h => Nat.lt_of_lt_of_le (z3 h) k.size, fun j hj => RowV.keeps R3 k (z3 (by omega)) (n3 (by omega)) j hj, d01, d02, d03, d12, d13, d23⟩
/-- A state whose lists, where they hold something, lie in blocks of their own from B to E. -/
structure RowsIn (w : World) (v : Value) (s : StD) (B E : Nat) : Prop where
  it : ∃ g0 g1 g2 g3, Rows4 w v s g0 g1 g2 g3 ∧ (B ≤ g0 ∧ B ≤ g1 ∧ B ≤ g2 ∧ B ≤ g3) ∧ (0 < s.pods.length → g0 < E) ∧ (0 < s.mnts.length → g1 < E) ∧ (0 < s.devs.length → g2 < E) ∧ (0 < s.lks.length → g3 < E)
theorem RowsIn.of {w : World} {B : Nat} {v : Value} {s : StD} (h : OwnSt w B v s) (hB : B ≤ w.heap.size) : RowsIn w v s B w.heap.size := by
  obtain ⟨g0, g1, g2, g3, R, b0, b1, b2, b3⟩ := h.rows hB
  exact ⟨g0, g1, g2, g3, R, ⟨b0, b1, b2, b3⟩, R.z0, R.z1, R.z2, R.z3⟩
theorem RowsIn.val {w : World} {B E : Nat} {v : Value} {s : StD} (h : RowsIn w v s B E) : ∃ A0 A1 A2 A3 c0 c1 c2 c3, v = .agg (stC A0 A1 A2 A3 s.pods.length c0 s.mnts.length c1 s.devs.length c2 s.lks.length c3 s.ph s.co s.ck s.bo s.ba s.lb s.gd s.pr) := by
  obtain ⟨g0, g1, g2, g3, R, -⟩ := h.it
  obtain ⟨A0, A1, A2, A3, c0, c1, c2, c3, hv, -⟩ := R.val
  exact ⟨A0, A1, A2, A3, c0, c1, c2, c3, hv⟩
theorem RowsIn.go {w w' : World} {B E : Nat} {v : Value} {s : StD} (h : RowsIn w v s B E) (hb : Below w.heap.size w w') : RowsIn w' v s B E := by
  obtain ⟨g0, g1, g2, g3, R, bs, es⟩ := h.it
  exact ⟨g0, g1, g2, g3, R.go hb, bs, es⟩
theorem RowsIn.is {w : World} {B E : Nat} {v : Value} {s : StD} (h : RowsIn w v s B E) (hf : StFits s 1048576) : IsSt w w.heap.size v s := by
  obtain ⟨g0, g1, g2, g3, R, -⟩ := h.it
  exact R.is hf
theorem RowsIn.keeps {S : Nat → Prop} {w w' : World} {B E : Nat} {v : Value} {s : StD} (h : RowsIn w v s B E) (k : Keeps S w w') (hS : ∀ b, B ≤ b → b < E → ¬ S b) : RowsIn w' v s B E := by
  obtain ⟨g0, g1, g2, g3, R, ⟨b0, b1, b2, b3⟩, e0, e1, e2, e3⟩ := h.it
  exact ⟨g0, g1, g2, g3, R.keeps k (fun h => hS _ b0 (e0 h)) (fun h => hS _ b1 (e1 h)) (fun h => hS _ b2 (e2 h)) (fun h => hS _ b3 (e3 h)), ⟨b0, b1, b2, b3⟩, e0, e1, e2, e3⟩
theorem if_pick {n g m : Nat} : ∃ h, (0 < n → h = g) ∧ (¬ 0 < n → h = m) := by
  by_cases hn : 0 < n
  · exact ⟨g, fun _ => rfl, fun h => absurd hn h⟩
  · exact ⟨m, fun h => absurd h hn, fun _ => rfl⟩
theorem row_pick {w : World} {n g h : Nat} {xs : List Value} {k : Nat} (R : RowV w g xs) (e : 0 < n → h = g) (hl : xs.length = n * k) : RowV w h xs := by
  intro j hj
  have hn : 0 < n := Nat.pos_of_ne_zero fun h0 => by rw [h0, Nat.zero_mul] at hl; omega
  rw [e hn]
  exact R j hj
/-- The same rows, those that hold nothing named by numbers behind the heap. -/
theorem RowsIn.apart {w : World} {B E : Nat} {v : Value} {s : StD} (h : RowsIn w v s B E) : ∃ g0 g1 g2 g3, Rows4 w v s g0 g1 g2 g3 ∧ (B ≤ g0 ∧ B ≤ g1 ∧ B ≤ g2 ∧ B ≤ g3) ∧ ((0 < s.pods.length → g0 < E) ∧ (0 < s.mnts.length → g1 < E) ∧ (0 < s.devs.length → g2 < E) ∧ (0 < s.lks.length → g3 < E)) ∧
    ∀ b, b < w.heap.size → (b = g0 ∨ b = g1 ∨ b = g2 ∨ b = g3) → B ≤ b ∧ b < E := by
  obtain ⟨g0, g1, g2, g3, R, ⟨b0, b1, b2, b3⟩, e0, e1, e2, e3⟩ := h.it
  obtain ⟨⟨A0, A1, A2, A3, c0, c1, c2, c3, hv, a0, a1, a2, a3⟩, z0, R0, z1, R1, z2, R2, z3, R3, d01, d02, d03, d12, d13, d23⟩ := R
  obtain ⟨h0, p0, q0⟩ := if_pick (n := s.pods.length) (g := g0) (m := w.heap.size + B)
  obtain ⟨h1, p1, q1⟩ := if_pick (n := s.mnts.length) (g := g1) (m := w.heap.size + B + 1)
  obtain ⟨h2, p2, q2⟩ := if_pick (n := s.devs.length) (g := g2) (m := w.heap.size + B + 2)
  obtain ⟨h3, p3, q3⟩ := if_pick (n := s.lks.length) (g := g3) (m := w.heap.size + B + 3)
  have k0 : B ≤ h0 := by by_cases hn : 0 < s.pods.length <;> simp [p0, q0, hn] <;> omega
  have k1 : B ≤ h1 := by by_cases hn : 0 < s.mnts.length <;> simp [p1, q1, hn] <;> omega
  have k2 : B ≤ h2 := by by_cases hn : 0 < s.devs.length <;> simp [p2, q2, hn] <;> omega
  have k3 : B ≤ h3 := by by_cases hn : 0 < s.lks.length <;> simp [p3, q3, hn] <;> omega
  refine ⟨h0, h1, h2, h3, ⟨⟨A0, A1, A2, A3, c0, c1, c2, c3, hv, fun h => by rw [p0 h]; exact a0 h, fun h => by rw [p1 h]; exact a1 h, fun h => by rw [p2 h]; exact a2 h, fun h => by rw [p3 h]; exact a3 h⟩,
    fun h => by rw [p0 h]; exact z0 h, row_pick R0 p0 (podCs_len _), fun h => by rw [p1 h]; exact z1 h, row_pick R1 p1 (mntCs_len _), fun h => by rw [p2 h]; exact z2 h, row_pick R2 p2 (devCs_len _), fun h => by rw [p3 h]; exact z3 h, row_pick R3 p3 (lkCs_len _), ?_, ?_, ?_, ?_, ?_, ?_⟩,
    ⟨k0, k1, k2, k3⟩, ⟨fun h => by rw [p0 h]; exact e0 h, fun h => by rw [p1 h]; exact e1 h, fun h => by rw [p2 h]; exact e2 h, fun h => by rw [p3 h]; exact e3 h⟩, ?_⟩
  all_goals
    by_cases n0 : 0 < s.pods.length <;> by_cases n1 : 0 < s.mnts.length <;> by_cases n2 : 0 < s.devs.length <;> by_cases n3 : 0 < s.lks.length <;>
      simp only [n0, n1, n2, n3, true_implies, not_true_eq_false, not_false_eq_true, false_implies] at p0 q0 p1 q1 p2 q2 p3 q3 z0 z1 z2 z3 e0 e1 e2 e3 <;> (try intro b hb hor) <;> omega
theorem Keeps.into {S S' : Nat → Prop} {w w' : World} (k : Keeps S w w') (h : ∀ b, b < w.heap.size → S b → S' b) : Keeps S' w w' := ⟨k.os, k.tape, k.output, k.size, fun b hb hn => k.block b hb fun hs => hn (h b hb hs)⟩
theorem markIn_any (v : Value) (s : StD) (B E : Nat) (k : Int) (w : World) (h : RowsIn w v s B E) (hf : StFits s 1048576) (hk0 : 0 ≤ k) (hk1 : k + totS s ≤ 8388608) :
    Calls Tryz.prog 15 #[v, .int .i64 k] w fun e w' => e = .returned (.int .i64 (k + totS s)) ∧ RowsIn w' v (markS k s) B E ∧ Keeps (fun b => B ≤ b ∧ b < E) w w' := by
  obtain ⟨g0, g1, g2, g3, R, bs, es, hs⟩ := h.apart
  refine (markState_any v s g0 g1 g2 g3 k w R hf hk0 hk1).mono ?_
  rintro e w' ⟨he, R', k'⟩
  exact ⟨he, ⟨g0, g1, g2, g3, R', bs, by simpa [markS, mkPods_len, mkMnts_len, mkDevs_len, mkLks_len] using es⟩, k'.into hs⟩
theorem heldIn_any (v : Value) (s : StD) (B E : Nat) (k : Int) (w : World) (h : RowsIn w v (markS k s) B E) (hf : StFits s 1048576) (hk0 : 0 ≤ k) (hk1 : k + totS s ≤ 8388608) :
    Calls Tryz.prog 16 #[v, .int .i64 k] w fun e w' => e = .returned (.int .i64 (k + totS s)) ∧ Below w.heap.size w w' := by
  obtain ⟨g0, g1, g2, g3, R, -⟩ := h.it
  exact heldState_any v s g0 g1 g2 g3 k w R hf hk0 hk1
theorem fits_tot {s : StD} (hf : StFits s 1048576) : totS s ≤ 6291456 := by
  obtain ⟨f0, f1, f2, f3⟩ := hf
  unfold totS
  omega
end Go.Proofs.YtlfppcppjbfieaaGreatDoor
/- Bh -/
set_option linter.unusedVariables false
namespace Go.Proofs.YtlfppcppjbfieaaGreatDoor
open Go.RowKit

/-- Block g holds bytes, x 0, x 1, .. x (N-1), all writable. -/
def RowU (w : World) (g N : Nat) (x : Nat → Int) : Prop := ∀ j, j < N → w.cell? ⟨g, j, none⟩ = some (.int .u8 (x j)) ∧ w.frozen? ⟨g, j, none⟩ = false
theorem RowU.set {w : World} {g N : Nat} {x : Nat → Int} (h : RowU w g N x) {i : Nat} (v : Int) : RowU (w.setCell ⟨g, i, none⟩ (.int .u8 v)) g N (fun j => if j = i then v else x j) := fun j hj => by
  refine ⟨?_, by rw [World.frozen?_setCell]; exact (h j hj).2⟩
  by_cases e : j = i
  · subst e
    show _ = some (Value.int _ (if j = j then v else x j))
    rw [if_pos rfl]
    exact World.cell?_setCell_same _ _ _ (h j hj).1
  · show _ = some (Value.int _ (if j = i then v else x j))
    rw [if_neg e, World.cell?_setCell_other _ _ _ _ (fun he => e (by injection he with _ h2 _; exact h2.symm))]
    exact (h j hj).1
theorem RowU.below {w w' : World} {B g N : Nat} {x : Nat → Int} (h : RowU w g N x) (hb : Below B w w') (hg : g < B) : RowU w' g N x := fun j hj =>
  ⟨(hb.cell (p := ⟨g, j, none⟩) hg).trans (h j hj).1, (hb.frozen (p := ⟨g, j, none⟩) hg).trans (h j hj).2⟩
theorem RowU.congr {w : World} {g N : Nat} {x y : Nat → Int} (h : RowU w g N x) (e : ∀ j, j < N → x j = y j) : RowU w g N y := fun j hj => by rw [← e j hj]; exact h j hj
theorem RowU.go {w w' : World} {g n : Nat} {x : Nat → Int} (R : RowU w g n x) (hg : 0 < n → g < w.heap.size) (hb : Below w.heap.size w w') : RowU w' g n x := fun j hj => R.below hb (hg (by omega)) j hj

theorem szRecS_any (A : Option Addr) (n c : Nat) (left : Int) (w : World) (hn : n ≤ maxLen) (h0 : 0 ≤ left) (h1 : left ≤ 1048576) :
    Calls Tryz.prog 17 #[.slice A n c, .int .i64 left] w fun e w' => e = .returned (.int .i64 (szI left n)) ∧ w = w' := by
  unfold maxLen at hn
  go_enter Tryz.func17, Tryz.ntmps17
  go_wp2
  · go_ret
    exact ⟨by rw [szI_neg (by omega)]; rfl, rfl⟩
  · go_ret
    exact ⟨by rw [szI_pos (by omega)]; rfl, rfl⟩
set_option maxHeartbeats 400000 in
theorem toRec_any (a b c : Int) (w : World) :
    Calls Tryz.prog 10 #[.agg #[.int .i64 a, .int .i64 b, .int .i64 c]] w fun e w' =>
      e = .returned (.agg #[.int .i64 a, .int .i64 b, .int .i64 c]) ∧ Below w.heap.size w w' := by
  go_enter Tryz.func10, Tryz.ntmps10
  go_wp2
  exact bodyPost_ret (v := .agg #[.int .i64 a, .int .i64 b, .int .i64 c]) (by simp [results, Tryz.results10, go_sem]) rfl ⟨rfl, (((Below.refl _ _).alloc (Nat.le_refl _) _).alloc (by simp) _).alloc (by simp; omega) _⟩
set_option maxHeartbeats 400000 in
theorem eqRec_same (a b c : Int) (w : World) :
    Calls Tryz.prog 66 #[.agg #[.int .i64 a, .int .i64 b, .int .i64 c], .agg #[.int .i64 a, .int .i64 b, .int .i64 c]] w fun e w' =>
      e = .returned (.bool true) ∧ Below w.heap.size w w' := by
  go_enter Tryz.func66, Tryz.ntmps66
  go_wp2
  go_ret
  exact ⟨rfl, ((Below.refl _ _).alloc (Nat.le_refl _) _).alloc (by simp) _⟩

set_option maxHeartbeats 1000000 in
theorem toRecS_any (A : Option Addr) (n c : Nat) (x : Nat → Int) (w : World) (s : Sl w w.heap.size 3 A n x) (hn : n ≤ 1048576) :
    Calls Tryz.prog 19 #[.slice A n c] w (Made w (n * 3) n x) := by
  have S := Lib.hid s
  clear s
  obtain ⟨i0, hi, hz0, hz1, hz2⟩ := info_parts info_rec
  have HN := Lib.hid hn
  have hn' : n ≤ 2 ^ 63 - 1 := by omega
  clear hn
  go_enter Tryz.func19, Tryz.ntmps19
  go_wp2_with (at_make; refine wpList_make_full _ rfl _ _ 60 rfl w.heap.size 50 i0 (.agg #[.int .i64 0, .int .i64 0, .int .i64 0]) 3 Tryz.underlying60 hi hz0 hz1 _ _ _ _ n rfl rfl rfl rfl ?b2 ?b3 (Nat.le_refl _) ?_)
  case b2 => have := HN.out; rw [hz2]; omega
  case b3 => have := HN.out; unfold maxLen; omega
  intro w1 hown hgrow
  have X : Copying w w1 (n * 3) 0 x := ⟨(Below.refl _ _).grown hgrow (Nat.le_refl _) (fun k hk => by cases hk), (hown.lt _ rfl).2, _, made_row (by omega) rfl hown, fun j hj => absurd hj (by omega)⟩
  clear hown hgrow hz0 hz1 hz2 hi
  go_wp2
  go_loopw [4] (fun i wr => ∃ k : Nat, k ≤ n ∧ i = .int .i64 k ∧ Copying w wr (n * 3) (k * 3) x) (fun i _ => n - (intOf i).toNat)
  case atStart => exact ⟨0, Nat.zero_le _, rfl, by simpa using X⟩
  case round =>
    clear X
    obtain ⟨k, hk, rfl, X⟩ := hrel
    by_cases hlt : k < n
    · obtain ⟨b, off, rfl, hb, q0, q1, q2⟩ := ((S.out.below X.K (Nat.le_refl _)).more X.K.size).cell3 hlt
      go_wp2_with (go_at_call 10; refine (toRec_any _ _ _ _).mono ?_; rintro e w2 ⟨rfl, hb2⟩; have X2 := X.step hb2; obtain ⟨v0, t0, f0⟩ := X2.at_ (j := k * 3) (by omega); obtain ⟨v1, t1, f1⟩ := X2.at_ (j := k * 3 + 1) (by omega); obtain ⟨v2, t2, f2⟩ := X2.at_ (j := k * 3 + 2) (by omega); clear hb2)
      refine ⟨⟨k + 1, by omega, by go_num, ?_⟩, by simp [intOf]; omega⟩
      have e : (k + 1) * 3 = k * 3 + 1 + 1 + 1 := by omega
      rw [e]
      exact X2.set.set.set
    · obtain rfl : k = n := by omega
      go_wp2
      go_ret
      exact X.made
theorem Made.rt {w w' : World} {n : Nat} {x : Nat → Int} {e : Ending} (h : Made w (n * 3) n x e w') (hn : n ≤ maxLen) : ∃ g, e = .returned (.slice (some ⟨g, 0, none⟩) n n) ∧ w.heap.size ≤ g ∧ g < w'.heap.size ∧ RowF w' g (n * 3) x ∧
    Rt w' w'.heap.size (.slice (some ⟨g, 0, none⟩) n n) (recsFrom n x) ∧ Below w.heap.size w w' := by
  obtain ⟨g, he, hg, hlt, R, K⟩ := h
  refine ⟨g, he, hg, hlt, R, ⟨⟨some ⟨g, 0, none⟩, n, by rw [recsFrom_length], ?_⟩, by rw [recsFrom_length]; exact hn⟩, K⟩
  rw [recsFrom_length]
  exact fun _ => ⟨g, 0, rfl, hlt, fun j hj => by rw [Nat.zero_add, cellR_from hj]; exact (R j hj).1⟩

set_option maxHeartbeats 1000000 in
theorem markRecS_any (A : Option Addr) (n c g : Nat) (k0 : Int) (x : Nat → Int) (w : World) (hA : 0 < n → A = some ⟨g, 0, none⟩) (R : RowF w g (n * 3) x) (hn : n ≤ 1048576) (h0 : 0 ≤ k0) (h1 : k0 ≤ 8388608) :
    Calls Tryz.prog 22 #[.slice A n c, .int .i64 k0] w fun e w' => e = .returned (.int .i64 (k0 + 3 * n)) ∧ RowF w' g (n * 3) (fun j => k0 + j) ∧ Keeps (· = g) w w' := by
  have HN := Lib.hid hn
  have hn' : n ≤ 2 ^ 63 - 1 := by omega
  have HA := Lib.hid hA
  clear hn hA
  go_enter Tryz.func22, Tryz.ntmps22
  go_wp2
  go_loopw [1, 5] (fun kk i wr => ∃ m : Nat, m ≤ n ∧ i = .int .i64 m ∧ kk = .int .i64 (k0 + 3 * m) ∧ RowF wr g (n * 3) (fun j => if j < m * 3 then k0 + j else x j) ∧ Keeps (· = g) w wr) (fun _ i _ => n - (intOf i).toNat)
  case atStart => exact ⟨0, Nat.zero_le _, rfl, by simp, R.congr fun j _ => by simp, Keeps.refl _ _⟩
  case round =>
    obtain ⟨m, hm, rfl, rfl, Y, K⟩ := hrel
    by_cases hlt : m < n
    · obtain rfl := HA.out (by omega)
      obtain ⟨t0, f0⟩ := Y (m * 3) (by omega)
      obtain ⟨t1, f1⟩ := Y (m * 3 + 1) (by omega)
      obtain ⟨t2, f2⟩ := Y (m * 3 + 2) (by omega)
      have hb := HN.out
      have HY := Lib.hid Y
      clear Y
      go_wp2
      refine ⟨⟨m + 1, by omega, by go_num, by congr 1; omega, ?_, ((K.set rfl _).set rfl _).set rfl _⟩, by simp [intOf]; omega⟩
      refine (((HY.out.set (i := m * 3) (k0 + 3 * m)).set (i := m * 3 + 1) (k0 + 3 * m + 1)).set (i := m * 3 + 2) (k0 + 3 * m + 1 + 1)).congr fun j hj => ?_
      by_cases e2 : j = m * 3 + 2
      · subst e2; simp; omega
      · by_cases e1 : j = m * 3 + 1
        · subst e1; simp; omega
        · by_cases e0 : j = m * 3
          · subst e0; simp; omega
          · simp only [if_neg e2, if_neg e1, if_neg e0]
            by_cases e' : j < m * 3
            · rw [if_pos e', if_pos (by omega)]
            · rw [if_neg e', if_neg (by omega)]
    · obtain rfl : m = n := by omega
      go_wp2
      go_ret
      exact ⟨rfl, Y.congr fun j hj => if_pos hj, K⟩
/-- What a mark leaves in a byte. -/
def markU (k0 : Int) (j : Nat) : Int := IntKind.u8.wrap (k0 + j)
set_option maxRecDepth 100000 in
set_option maxHeartbeats 1000000 in
theorem eqRecS_same (v v' : Value) (l : List RecD) (w : World) (h : Rt w w.heap.size v l) (h' : Rt w w.heap.size v' l) :
    Calls Tryz.prog 21 #[v, v'] w fun e w' => e = .returned (.bool true) ∧ Below w.heap.size w w' := by
  have H := Lib.hid h
  have H' := Lib.hid h'
  obtain ⟨⟨A, c, rfl, -⟩, hl⟩ := h
  obtain ⟨⟨A', c', rfl, -⟩, -⟩ := h'
  have hl' : l.length ≤ 2 ^ 63 - 1 := by unfold maxLen at hl; omega
  clear hl
  generalize hq : l.length = n at *
  have HQ := Lib.hid hq
  clear hq
  go_enter Tryz.func21, Tryz.ntmps21
  go_wp2
  go_loopw [5] (fun i wr => ∃ k : Nat, k ≤ n ∧ i = .int .i64 k ∧ Below w.heap.size w wr) (fun i _ => n - (intOf i).toNat)
  case atStart => exact ⟨0, Nat.zero_le _, rfl, Below.refl _ _⟩
  case round =>
    obtain ⟨k, hk, rfl, K⟩ := hrel
    by_cases hlt : k < n
    · obtain ⟨b, off, rfl, hb, q0, q1, q2⟩ := (H.out.below K (Nat.le_refl _)).cell (i := k) (by rw [HQ.out]; exact hlt)
      obtain ⟨b', off', rfl, hb', r0, r1, r2⟩ := (H'.out.below K (Nat.le_refl _)).cell (i := k) (by rw [HQ.out]; exact hlt)
      generalize recAt l k = r at *
      obtain ⟨rk, ra, rb⟩ := r
      dsimp only at q0 q1 q2 r0 r1 r2
      have S0 : (wr.cell? ⟨b, off + k * 3, none⟩ = some (.int .i64 rk) ∧ wr.cell? ⟨b, off + k * 3 + 1, none⟩ = some (.int .i64 ra) ∧ wr.cell? ⟨b, off + k * 3 + 2, none⟩ = some (.int .i64 rb)) ∧
        (wr.cell? ⟨b', off' + k * 3, none⟩ = some (.int .i64 rk) ∧ wr.cell? ⟨b', off' + k * 3 + 1, none⟩ = some (.int .i64 ra) ∧ wr.cell? ⟨b', off' + k * 3 + 2, none⟩ = some (.int .i64 rb)) ∧ Below w.heap.size w wr := ⟨⟨q0, q1, q2⟩, ⟨r0, r1, r2⟩, K⟩
      clear q0 q1 q2 r0 r1 r2
      go_wp2_with fail
      go_region_held3 (fun w' => (w'.cell? ⟨b, off + k * 3, none⟩ = some (.int .i64 rk) ∧ w'.cell? ⟨b, off + k * 3 + 1, none⟩ = some (.int .i64 ra) ∧ w'.cell? ⟨b, off + k * 3 + 2, none⟩ = some (.int .i64 rb)) ∧
        (w'.cell? ⟨b', off' + k * 3, none⟩ = some (.int .i64 rk) ∧ w'.cell? ⟨b', off' + k * 3 + 1, none⟩ = some (.int .i64 ra) ∧ w'.cell? ⟨b', off' + k * 3 + 2, none⟩ = some (.int .i64 rb)) ∧ Below w.heap.size w w')
        (first | exact S0 | exact S1 | exact ⟨S0.1, S0.2.1, S0.2.2.drew⟩)
        (first
          | (go_at_call 66
             refine (eqRec_same rk ra rb _).mono ?_
             rintro e w2 ⟨rfl, hb2⟩
             have hb3 := hb2.mono K.size
             have S1 : (w2.cell? ⟨b, off + k * 3, none⟩ = some (.int .i64 rk) ∧ w2.cell? ⟨b, off + k * 3 + 1, none⟩ = some (.int .i64 ra) ∧ w2.cell? ⟨b, off + k * 3 + 2, none⟩ = some (.int .i64 rb)) ∧
               (w2.cell? ⟨b', off' + k * 3, none⟩ = some (.int .i64 rk) ∧ w2.cell? ⟨b', off' + k * 3 + 1, none⟩ = some (.int .i64 ra) ∧ w2.cell? ⟨b', off' + k * 3 + 2, none⟩ = some (.int .i64 rb)) ∧ Below w.heap.size w w2 :=
               ⟨⟨(hb3.cell (p := ⟨b, off + k * 3, none⟩) hb).trans S0.1.1, (hb3.cell (p := ⟨b, off + k * 3 + 1, none⟩) hb).trans S0.1.2.1, (hb3.cell (p := ⟨b, off + k * 3 + 2, none⟩) hb).trans S0.1.2.2⟩,
                ⟨(hb3.cell (p := ⟨b', off' + k * 3, none⟩) hb').trans S0.2.1.1, (hb3.cell (p := ⟨b', off' + k * 3 + 1, none⟩) hb').trans S0.2.1.2.1, (hb3.cell (p := ⟨b', off' + k * 3 + 2, none⟩) hb').trans S0.2.1.2.2⟩, K.drew.trans hb3⟩))
      have K2 := S1.2.2
      clear S0 S1
      go_wp2
      exact ⟨⟨k + 1, by omega, by go_num, K2⟩, by simp [intOf]; omega⟩
    · obtain rfl : k = n := by omega
      go_wp2
      go_ret
      exact ⟨rfl, K⟩

/-- A copy of bytes, made anew. -/
def MadeB (w : World) (L : List Nat) (e : Ending) (w' : World) : Prop :=
  ∃ g, e = .returned (.slice (some ⟨g, 0, none⟩) L.length L.length) ∧ w.heap.size ≤ g ∧ g < w'.heap.size ∧ RowU w' g L.length (fun j => (L.getD j 0 : Nat)) ∧ Bt w' w'.heap.size (.slice (some ⟨g, 0, none⟩) L.length L.length) L ∧ Below w.heap.size w w'
theorem made_rowU {w : World} {base e n : Nat} {g : Nat} (h : w.ownsRow base e 1 (.slice (some ⟨g, 0, none⟩) n n) n (madeCells #[.int .u8 0] (n * 1)).toList) : RowU w g n (fun _ => 0) := fun j hj => by
  refine ⟨?_, ?_⟩
  · have := h.cells (g := g) rfl j (.int .u8 0) (by simp [madeCells, hj, Nat.mod_one])
    rwa [add_zero_block] at this
  · rcases h.2 with ⟨h1, _⟩ | ⟨g', cap, cur, h1, _, h2, _⟩
    · cases h1
    · injection h1 with h1 _ _
      injection h1 with h1
      injection h1 with h1 _ _
      subst h1
      exact frozen_of_row _ _ _ _ _ h2
end Go.Proofs.YtlfppcppjbfieaaGreatDoor
/- Ul -/
set_option linter.unusedVariables false
namespace Go.Proofs.YtlfppcppjbfieaaGreatDoor
open Go.RowKit

theorem IsPlan.go {w w' : World} {v : Value} {d : PlanD} (h : IsPlan w w.heap.size v d) (hb : Below w.heap.size w w') : IsPlan w' w'.heap.size v d := (h.below hb (Nat.le_refl _)).more hb.size

end Go.Proofs.YtlfppcppjbfieaaGreatDoor
/- Ya -/
set_option linter.unusedVariables false
namespace Go.Proofs.YtlfppcppjbfieaaGreatDoor
open Go.RowKit

set_option maxRecDepth 100000 in
set_option maxHeartbeats 2000000 in
theorem markPlan_num (d : PlanD) (g0 g1 g2 g3 : Nat) (w0 w : World) (h : NewPlan w0 w d g0 g1 g2 g3) (h0 : d.n0 ≤ 1048576) (h1 : d.n1 ≤ 1048576) (h2 : d.n2 ≤ 1048576) (h3 : d.n3 ≤ 1048576) :
    Calls Tryz.prog 14 #[newPlanV d g0 g1 g2 g3, .int .i64 1] w fun e w' => e = .returned (.int .i64 (1 + 4 * d.n0 + d.n1 + 2 * d.n2 + d.n3)) ∧ Keeps (fun b => g0 ≤ b ∧ b ≤ g3) w w' := by
  obtain ⟨l0, l1, l2, l3, l4, R0, R1, R2, R3⟩ := h
  obtain ⟨n0, n1, n2, n3, x0, x1, x2, x3, l, p, t⟩ := d
  dsimp only at *
  have H0 := Lib.hid h0
  have H1 := Lib.hid h1
  have H2 := Lib.hid h2
  have H3 := Lib.hid h3
  clear h0 h1 h2 h3
  have b0 : (n0 : Int) ≤ 1048576 := by have := H0.out; omega
  have b1 : (n1 : Int) ≤ 1048576 := by have := H1.out; omega
  have b2 : (n2 : Int) ≤ 1048576 := by have := H2.out; omega
  have b3 : (n3 : Int) ≤ 1048576 := by have := H3.out; omega
  go_enter Tryz.func14, Tryz.ntmps14
  go_wp2_with fail
  have X := cell_new w (planC (some ⟨g0, 0, none⟩) (some ⟨g1, 0, none⟩) (some ⟨g2, 0, none⟩) (some ⟨g3, 0, none⟩) n0 n0 n1 n1 n2 n2 n3 n3 l p t) 47
  have A1 := (Below.refl w.heap.size w).alloc (Nat.le_refl _) (.cells (planC (some ⟨g0, 0, none⟩) (some ⟨g1, 0, none⟩) (some ⟨g2, 0, none⟩) (some ⟨g3, 0, none⟩) n0 n0 n1 n1 n2 n2 n3 n3 l p t) 47)
  have K1 : Keeps (fun b => g0 ≤ b ∧ b ≤ g3) w _ := Keeps.of_below A1
  have R0 := R0.below A1 (by omega)
  have R1 := R1.below A1 (by omega)
  have R2 := R2.below A1 (by omega)
  have R3 := R3.below A1 (by omega)
  have z1 : w.heap.size < (w.alloc (.cells (planC (some ⟨g0, 0, none⟩) (some ⟨g1, 0, none⟩) (some ⟨g2, 0, none⟩) (some ⟨g3, 0, none⟩) n0 n0 n1 n1 n2 n2 n3 n3 l p t) 47)).heap.size := by simp
  refine (markPodS_any _ n0 _ g0 _ x0 _ (fun _ => rfl) R0 H0.out (by omega) (by omega)).mono ?_
  rintro e w2 ⟨rfl, k⟩
  have hC2 : ∀ o, w2.cell? ⟨w.heap.size, o, none⟩ = _ := fun o => (k.cell (p := ⟨w.heap.size, o, none⟩) z1 (by show ¬ w.heap.size = g0; omega)).trans (X o)
  have R1 := R1.keeps k (by omega) (by omega)
  have R2 := R2.keeps k (by omega) (by omega)
  have R3 := R3.keeps k (by omega) (by omega)
  have K2 := K1.trans (k.mono (T := fun b => g0 ≤ b ∧ b ≤ g3) (by rintro b rfl; omega))
  have z2 := Nat.lt_of_lt_of_le z1 k.size
  clear X A1 K1 R0 z1 k
  go_wp2_with fail
  refine (markInt64S_any _ n1 _ g1 _ x1 _ (fun _ => rfl) R1 H1.out (by omega) (by omega)).mono ?_
  rintro e w3 ⟨rfl, -, k⟩
  have hC3 : ∀ o, w3.cell? ⟨w.heap.size, o, none⟩ = _ := fun o => (k.cell (p := ⟨w.heap.size, o, none⟩) z2 (by show ¬ w.heap.size = g1; omega)).trans (hC2 o)
  have R2 := R2.keeps k (by omega) (by omega)
  have R3 := R3.keeps k (by omega) (by omega)
  have K3 := K2.trans (k.mono (T := fun b => g0 ≤ b ∧ b ≤ g3) (by rintro b rfl; omega))
  have z3 := Nat.lt_of_lt_of_le z2 k.size
  clear hC2 K2 R1 z2 k
  go_wp2_with fail
  refine (markMountS_any _ n2 _ g2 _ x2 _ (fun _ => rfl) R2 H2.out (by omega) (by omega)).mono ?_
  rintro e w4 ⟨rfl, k⟩
  have hC4 : ∀ o, w4.cell? ⟨w.heap.size, o, none⟩ = _ := fun o => (k.cell (p := ⟨w.heap.size, o, none⟩) z3 (by show ¬ w.heap.size = g2; omega)).trans (hC3 o)
  have R3 := R3.keeps k (by omega) (by omega)
  have K4 := K3.trans (k.mono (T := fun b => g0 ≤ b ∧ b ≤ g3) (by rintro b rfl; omega))
  have z4 := Nat.lt_of_lt_of_le z3 k.size
  clear hC3 K3 R2 z3 k
  go_wp2_with fail
  refine (markDeviceS_any _ n3 _ g3 _ x3 _ (fun _ => rfl) R3 H3.out (by omega) (by omega)).mono ?_
  rintro e w5 ⟨rfl, k⟩
  have K5 := K4.trans (k.mono (T := fun b => g0 ≤ b ∧ b ≤ g3) (by rintro b rfl; omega))
  clear hC4 K4 R3 z4 k
  go_wp2_with fail
  go_ret
  exact ⟨ret_int (by omega), K5⟩
theorem calls_at {P : Program} {f : FuncId} {args : Array Value} {Q : Ending → World → Prop} {W : World} (R : World → Prop) (h : R W) (k : ∀ W', R W' → Calls P f args W' Q) : Calls P f args W Q := k W h
theorem appliedL_fits {d : PlanD} {s : StD} {l : List RecD} (hf : StFits s 1048576) : StFits (appliedL d s l).1 1048576 := by
  unfold appliedL
  split
  · rename_i hok
    split
    · rename_i x hx
      exact fits_ok (runR_ok (stOkB_iff.1 hok) hx)
    · exact hf
  · exact ⟨by simp [zeroS], by simp [zeroS], by simp [zeroS], by simp [zeroS]⟩
theorem NewSt.rowsIn {w w' : World} {s : StD} {g0 g1 g2 g3 : Nat} (h : NewSt w w' s g0 g1 g2 g3) : RowsIn w' (newStV s g0 g1 g2 g3) s w.heap.size w'.heap.size := by
  have R := h.rows
  obtain ⟨l0, l1, l2, l3, l4, R0, R1, R2, R3⟩ := h
  exact ⟨g0, g1, g2, g3, R, ⟨l0, by omega, by omega, by omega⟩, fun _ => by omega, fun _ => by omega, fun _ => by omega, fun _ => by omega⟩
theorem BoxS.own {w W : World} {B g : Nat} {cs : Array Value} (h : BoxS W B g cs.toList) (K : Below w.heap.size w W) : Own w W g cs := ⟨K, h.lt.2, h.C, fun o => h.frozen o⟩
/-- A row in a block of the heap. -/
structure RowB (w : World) (g N : Nat) (x : Nat → Int) : Prop where
  R : RowF w g N x
  z : g < w.heap.size
theorem RowB.go {w w' : World} {g N : Nat} {x : Nat → Int} (h : RowB w g N x) (hb : Below w.heap.size w w') : RowB w' g N x := ⟨h.R.below hb h.z, Nat.lt_of_lt_of_le h.z hb.size⟩
theorem RowB.keeps {S : Nat → Prop} {w w' : World} {g N : Nat} {x : Nat → Int} (h : RowB w g N x) (k : Keeps S w w') (hn : ¬ S g) : RowB w' g N x := ⟨h.R.keeps k h.z hn, Nat.lt_of_lt_of_le h.z k.size⟩
theorem Two.keeps {S : Nat → Prop} {w w1 w2 : World} {cs os : Array Value} (h : Two w w1 cs os) (k : Keeps S w1 w2) (hS : ∀ b, S b → w.heap.size + 1 < b) : Two w w2 cs os :=
  ⟨h.A.keeps k (fun b hb => by have := hS b hb; omega) (fun hb => by have := hS _ hb; omega), h.O.keeps k (fun b hb => by have := hS b hb; omega) (fun hb => by have := hS _ hb; omega)⟩
theorem tot_half {s : StD} {m : Int} (h : (s.pods.length + s.mnts.length + s.devs.length + s.lks.length : Nat) ≤ m) : (totS s : Int) ≤ 2 * m := by unfold totS; omega
end Go.Proofs.YtlfppcppjbfieaaGreatDoor
/- Yc -/
set_option linter.unusedVariables false
namespace Go.Proofs.YtlfppcppjbfieaaGreatDoor
open Go.RowKit

theorem TP.keeps {S : Nat → Prop} {w w1 w2 : World} {cs zs os : Array Value} (h : TP w w1 cs zs os) (k : Keeps S w1 w2) (hS : ∀ b, S b → w.heap.size + 1 + 1 < b) : TP w w2 cs zs os :=
  ⟨h.A.keeps k (fun b hb => by have := hS b hb; omega) (fun hb => by have := hS _ hb; omega), h.Z.keeps k (fun b hb => by have := hS b hb; omega) (fun hb => by have := hS _ hb; omega), h.O.keeps k (fun b hb => by have := hS b hb; omega) (fun hb => by have := hS _ hb; omega)⟩
/-- A state whose lists, where they hold something, lie in blocks of R. -/
structure RowsR (w : World) (v : Value) (s : StD) (R : Nat → Prop) : Prop where
  it : ∃ g0 g1 g2 g3, Rows4 w v s g0 g1 g2 g3 ∧ (0 < s.pods.length → R g0) ∧ (0 < s.mnts.length → R g1) ∧ (0 < s.devs.length → R g2) ∧ (0 < s.lks.length → R g3)
theorem RowsR.of {w : World} {B B' q : Nat} {v : Value} {s : StD} {xs : List Value} (h : OwnSt w B v s) (hb : BoxS w B' q xs) (hB : B ≤ w.heap.size) : RowsR w v s (fun b => B ≤ b ∧ b < w.heap.size ∧ b ≠ q) := by
  obtain ⟨g0, g1, g2, g3, R, b0, b1, b2, b3⟩ := h.rows hB
  have hq := h.apart hb
  obtain ⟨A0, A1, A2, A3, c0, c1, c2, c3, hv, a0, a1, a2, a3⟩ := R.val
  exact ⟨g0, g1, g2, g3, R, fun hn => ⟨b0, R.z0 hn, fun e => hq ⟨_, 6, _, hv, rfl, by rw [a0 hn, e]; rfl⟩⟩, fun hn => ⟨b1, R.z1 hn, fun e => hq ⟨_, 7, _, hv, rfl, by rw [a1 hn, e]; rfl⟩⟩,
    fun hn => ⟨b2, R.z2 hn, fun e => hq ⟨_, 8, _, hv, rfl, by rw [a2 hn, e]; rfl⟩⟩, fun hn => ⟨b3, R.z3 hn, fun e => hq ⟨_, 9, _, hv, rfl, by rw [a3 hn, e]; rfl⟩⟩⟩
theorem RowsR.go {w w' : World} {R : Nat → Prop} {v : Value} {s : StD} (h : RowsR w v s R) (hb : Below w.heap.size w w') : RowsR w' v s R := by
  obtain ⟨g0, g1, g2, g3, r, es⟩ := h.it
  exact ⟨g0, g1, g2, g3, r.go hb, es⟩
theorem RowsR.is {w : World} {R : Nat → Prop} {v : Value} {s : StD} (h : RowsR w v s R) (hf : StFits s 1048576) : IsSt w w.heap.size v s := by
  obtain ⟨g0, g1, g2, g3, r, -⟩ := h.it
  exact r.is hf
theorem RowsR.keeps {S R : Nat → Prop} {w w' : World} {v : Value} {s : StD} (h : RowsR w v s R) (k : Keeps S w w') (hS : ∀ b, R b → ¬ S b) : RowsR w' v s R := by
  obtain ⟨g0, g1, g2, g3, r, e0, e1, e2, e3⟩ := h.it
  exact ⟨g0, g1, g2, g3, r.keeps k (fun h => hS _ (e0 h)) (fun h => hS _ (e1 h)) (fun h => hS _ (e2 h)) (fun h => hS _ (e3 h)), e0, e1, e2, e3⟩
/-- The same rows, those that hold nothing named by numbers behind the heap. -/
theorem RowsR.apart {w : World} {P : Nat → Prop} {v : Value} {s : StD} (h : RowsR w v s P) : ∃ g0 g1 g2 g3, Rows4 w v s g0 g1 g2 g3 ∧ ((0 < s.pods.length → P g0) ∧ (0 < s.mnts.length → P g1) ∧ (0 < s.devs.length → P g2) ∧ (0 < s.lks.length → P g3)) ∧
    ∀ b, b < w.heap.size → (b = g0 ∨ b = g1 ∨ b = g2 ∨ b = g3) → P b := by
  obtain ⟨g0, g1, g2, g3, R, e0, e1, e2, e3⟩ := h.it
  obtain ⟨⟨A0, A1, A2, A3, c0, c1, c2, c3, hv, a0, a1, a2, a3⟩, z0, R0, z1, R1, z2, R2, z3, R3, d01, d02, d03, d12, d13, d23⟩ := R
  obtain ⟨h0, p0, q0⟩ := if_pick (n := s.pods.length) (g := g0) (m := w.heap.size)
  obtain ⟨h1, p1, q1⟩ := if_pick (n := s.mnts.length) (g := g1) (m := w.heap.size + 1)
  obtain ⟨h2, p2, q2⟩ := if_pick (n := s.devs.length) (g := g2) (m := w.heap.size + 2)
  obtain ⟨h3, p3, q3⟩ := if_pick (n := s.lks.length) (g := g3) (m := w.heap.size + 3)
  have k0 : ∀ b, b < w.heap.size → b = h0 → P b := fun b hb e => by
    by_cases hn : 0 < s.pods.length
    · rw [e, p0 hn]; exact e0 hn
    · rw [q0 hn] at e; omega
  have k1 : ∀ b, b < w.heap.size → b = h1 → P b := fun b hb e => by
    by_cases hn : 0 < s.mnts.length
    · rw [e, p1 hn]; exact e1 hn
    · rw [q1 hn] at e; omega
  have k2 : ∀ b, b < w.heap.size → b = h2 → P b := fun b hb e => by
    by_cases hn : 0 < s.devs.length
    · rw [e, p2 hn]; exact e2 hn
    · rw [q2 hn] at e; omega
  have k3 : ∀ b, b < w.heap.size → b = h3 → P b := fun b hb e => by
    by_cases hn : 0 < s.lks.length
    · rw [e, p3 hn]; exact e3 hn
    · rw [q3 hn] at e; omega
  refine ⟨h0, h1, h2, h3, ⟨⟨A0, A1, A2, A3, c0, c1, c2, c3, hv, fun h => by rw [p0 h]; exact a0 h, fun h => by rw [p1 h]; exact a1 h, fun h => by rw [p2 h]; exact a2 h, fun h => by rw [p3 h]; exact a3 h⟩,
    fun h => by rw [p0 h]; exact z0 h, row_pick R0 p0 (podCs_len _), fun h => by rw [p1 h]; exact z1 h, row_pick R1 p1 (mntCs_len _), fun h => by rw [p2 h]; exact z2 h, row_pick R2 p2 (devCs_len _), fun h => by rw [p3 h]; exact z3 h, row_pick R3 p3 (lkCs_len _), ?_, ?_, ?_, ?_, ?_, ?_⟩,
    ⟨fun h => by rw [p0 h]; exact e0 h, fun h => by rw [p1 h]; exact e1 h, fun h => by rw [p2 h]; exact e2 h, fun h => by rw [p3 h]; exact e3 h⟩, fun b hb hor => hor.elim (k0 b hb) fun h => h.elim (k1 b hb) fun h => h.elim (k2 b hb) (k3 b hb)⟩
  all_goals
    clear k0 k1 k2 k3 e0 e1 e2 e3
    by_cases n0 : 0 < s.pods.length <;> by_cases n1 : 0 < s.mnts.length <;> by_cases n2 : 0 < s.devs.length <;> by_cases n3 : 0 < s.lks.length <;>
      simp only [n0, n1, n2, n3, true_implies, not_true_eq_false, not_false_eq_true, false_implies] at p0 q0 p1 q1 p2 q2 p3 q3 z0 z1 z2 z3 <;> omega
theorem markR_any (v : Value) (s : StD) (R : Nat → Prop) (k : Int) (w : World) (h : RowsR w v s R) (hf : StFits s 1048576) (hk0 : 0 ≤ k) (hk1 : k + totS s ≤ 8388608) :
    Calls Tryz.prog 15 #[v, .int .i64 k] w fun e w' => e = .returned (.int .i64 (k + totS s)) ∧ RowsR w' v (markS k s) R ∧ Keeps R w w' := by
  obtain ⟨g0, g1, g2, g3, r, es, hs⟩ := h.apart
  refine (markState_any v s g0 g1 g2 g3 k w r hf hk0 hk1).mono ?_
  rintro e w' ⟨he, r', k'⟩
  exact ⟨he, ⟨g0, g1, g2, g3, r', by simpa [markS, mkPods_len, mkMnts_len, mkDevs_len, mkLks_len] using es⟩, k'.into hs⟩
theorem heldR_any (v : Value) (s : StD) (R : Nat → Prop) (k : Int) (w : World) (h : RowsR w v (markS k s) R) (hf : StFits s 1048576) (hk0 : 0 ≤ k) (hk1 : k + totS s ≤ 8388608) :
    Calls Tryz.prog 16 #[v, .int .i64 k] w fun e w' => e = .returned (.int .i64 (k + totS s)) ∧ Below w.heap.size w w' := by
  obtain ⟨g0, g1, g2, g3, r, -⟩ := h.it
  exact heldState_any v s g0 g1 g2 g3 k w r hf hk0 hk1
theorem appliedS_fits {d : PlanD} {s : StD} {r : RecD} (hf : StFits s 1048576) : StFits (appliedS d s r).1 1048576 := by
  unfold appliedS
  split
  · split
    · rename_i hg
      simp only [goodR, Bool.and_eq_true] at hg
      exact fits_ok (stOkB_iff.1 hg.2)
    · exact hf
  · exact ⟨by simp [zeroS], by simp [zeroS], by simp [zeroS], by simp [zeroS]⟩
end Go.Proofs.YtlfppcppjbfieaaGreatDoor
/- Xl -/
set_option linter.unusedVariables false
namespace Go.Proofs.YtlfppcppjbfieaaGreatDoor
open Go.RowKit

theorem appliedL_one (d : PlanD) (s : StD) (r : RecD) : appliedL d s [r] = appliedS d s r := by
  unfold appliedL appliedS
  split
  · simp only [runR]
    cases goodR d s r <;> rfl
  · rfl
theorem rt_one {w : World} {g : Nat} {r : RecD} (h : w.heap[g]? = some (.cells #[.int .i64 r.k, .int .i64 r.a, .int .i64 r.b] 50)) {B : Nat} (hB : g < B) : Rt w B (.slice (some ⟨g, 0, none⟩) 1 1) [r] := by
  refine ⟨⟨some ⟨g, 0, none⟩, 1, rfl, fun _ => ⟨g, 0, rfl, hB, fun j hj => ?_⟩⟩, by unfold maxLen; simp⟩
  rw [cell_of_row _ _ _ _ _ _ h]
  rw [Nat.zero_add]
  match j, hj with
  | 0, _ => rfl
  | 1, _ => rfl
  | 2, _ => rfl
  | k + 3, hk => simp at hk; omega

set_option maxRecDepth 4000 in
set_option maxHeartbeats 4000000 in
theorem implRec_any (pv sv : Value) (d : PlanD) (s : StD) (r : RecD) (w : World) (hp : IsPlan w w.heap.size pv d) (hs : IsStR w w.heap.size sv s) (N : Names w) :
    Calls Tryz.prog 11 #[pv, sv, recC r] w (MadeSB w (appliedS d s r)) := by
  have HE := Lib.hid (appliedL_one d s r)
  have HP := Lib.hid hp
  have HS := Lib.hid hs
  have HN := Lib.hid N
  obtain ⟨⟨P0, P1, P2, P3, k0, k1, k2, k3, rfl, -, -, -, -⟩, -, -, -, -⟩ := hp
  obtain ⟨⟨A0, A1, A2, A3, c0, c1, c2, c3, rfl, -, -⟩, -⟩ := hs
  clear N
  unfold recC
  have T0 := Four.start w (planC P0 P1 P2 P3 d.n0 k0 d.n1 k1 d.n2 k2 d.n3 k3 d.l d.p d.t) (stC A0 A1 A2 A3 s.pods.length c0 s.mnts.length c1 s.devs.length c2 s.lks.length c3 s.ph s.co s.ck s.bo s.ba s.lb s.gd s.pr) #[.int .i64 r.k, .int .i64 r.a, .int .i64 r.b] (stC none none none none 0 0 0 0 0 0 0 0 0 false 0 0 0 0 0 0) 47 40 50 40
  go_enter Tryz.func11, Tryz.ntmps11
  go_wp2_with fail
  have hs4 : ((((w.alloc (.cells (planC P0 P1 P2 P3 d.n0 k0 d.n1 k1 d.n2 k2 d.n3 k3 d.l d.p d.t) 47)).alloc (.cells (stC A0 A1 A2 A3 s.pods.length c0 s.mnts.length c1 s.devs.length c2 s.lks.length c3 s.ph s.co s.ck s.bo s.ba s.lb s.gd s.pr) 40)).alloc (.cells #[.int .i64 r.k, .int .i64 r.a, .int .i64 r.b] 50)).alloc (.cells (stC none none none none 0 0 0 0 0 0 0 0 0 false 0 0 0 0 0 0) 40)).heap.size = w.heap.size + 1 + 1 + 1 + 1 := by simp
  generalize (((w.alloc (.cells (planC P0 P1 P2 P3 d.n0 k0 d.n1 k1 d.n2 k2 d.n3 k3 d.l d.p d.t) 47)).alloc (.cells (stC A0 A1 A2 A3 s.pods.length c0 s.mnts.length c1 s.devs.length c2 s.lks.length c3 s.ph s.co s.ck s.bo s.ba s.lb s.gd s.pr) 40)).alloc (.cells #[.int .i64 r.k, .int .i64 r.a, .int .i64 r.b] 50)).alloc (.cells (stC none none none none 0 0 0 0 0 0 0 0 0 false 0 0 0 0 0 0) 40) = w4 at T0 hs4 ⊢
  have hb : Below w4.heap.size w4 (w4.alloc (.cells #[.int .i64 r.k, .int .i64 r.a, .int .i64 r.b] 50)) := (Below.refl _ _).alloc (Nat.le_refl _) _
  have T1 := T0.step hb
  have hnew : (w4.alloc (.cells #[.int .i64 r.k, .int .i64 r.a, .int .i64 r.b] 50)).heap[w4.heap.size]? = some (.cells #[.int .i64 r.k, .int .i64 r.a, .int .i64 r.b] 50) := heap_alloc_new w4 _
  rw [hs4] at hnew
  have hR : Rt _ (w4.alloc (.cells #[.int .i64 r.k, .int .i64 r.a, .int .i64 r.b] 50)).heap.size (.slice (some ⟨w.heap.size + 1 + 1 + 1 + 1, 0, none⟩) 1 1) [r] := rt_one hnew (by rw [heap_size_alloc_]; omega)
  clear hb hs4 hnew T0
  generalize w4.alloc (.cells #[.int .i64 r.k, .int .i64 r.a, .int .i64 r.b] 50) = w5 at T1 hR ⊢
  obtain ⟨x, b, hxb⟩ : ∃ x b, appliedS d s r = (x, b) := by
      generalize appliedS d s r = q
      exact ⟨q.1, q.2, rfl⟩
  have hall := implAll_any _ _ _ d s [r] _ ((HP.out.below T1.P.K (Nat.le_refl _)).more T1.P.K.size) ((HS.out.below T1.P.K (Nat.le_refl _)).more T1.P.K.size) hR (HN.out.go T1.P.K)
  rw [HE.out, hxb] at hall
  have HXB := Lib.hid hxb
  clear hxb HE
  refine hall.mono ?_
  rintro e wc ⟨vc, h1, Oc, hb⟩
  dsimp only at h1 Oc
  subst h1
  have Tc := T1.step hb
  have hB2 := T1.O.z
  obtain ⟨u0, u1, u2, u3, rfl, z0, z1, z2, z3⟩ := Oc.it
  obtain ⟨D0, h0, rfl, -⟩ := open_rowR z0
  obtain ⟨D1, h1, rfl, -⟩ := open_rowR z1
  obtain ⟨D2, h2, rfl, -⟩ := open_rowR z2
  obtain ⟨D3, h3, rfl, -⟩ := open_rowR z3
  have HOc := Lib.hid Oc
  clear z0 z1 z2 z3 Oc hall
  have hD := Tc.O.C
  have hG := Tc.O.F
  go_wp2
  refine bodyPost_ret (v := .tuple #[.agg (stC D0 D1 D2 D3 x.pods.length h0 x.mnts.length h1 x.devs.length h2 x.lks.length h3 x.ph x.co x.ck x.bo x.ba x.lb x.gd x.pr), .bool b]) ?_ rfl ?_
  · simp [results, Tryz.results11, go_sem, hD]
  · rw [HXB.out]
    refine ⟨_, rfl, (HOc.out.keeps (keeps_put12 ..) fun r hr e => by subst e; have := (HOc.out.blocks hr).1; omega).base (by omega), ?_⟩
    iterate 12 (refine Below.setCell ?_ (by simp <;> omega) _)
    exact Tc.P.K
end Go.Proofs.YtlfppcppjbfieaaGreatDoor
/- Xk -/
set_option linter.unusedVariables false
namespace Go.Proofs.YtlfppcppjbfieaaGreatDoor
open Go.RowKit

set_option maxRecDepth 4000 in
set_option maxHeartbeats 4000000 in
theorem specAll_any (pv sv rv : Value) (d : PlanD) (s : StD) (l : List RecD) (w : World) (hp : IsPlan w w.heap.size pv d) (hs : IsStR w w.heap.size sv s) (hr : Rt w w.heap.size rv l) :
    Calls Tryz.prog 18 #[pv, sv, rv] w (MadeSB w (appliedL d s l)) := by
  have HP := Lib.hid hp
  have HS := Lib.hid hs
  have HR := Lib.hid hr
  obtain ⟨⟨P0, P1, P2, P3, k0, k1, k2, k3, rfl, -, -, -, -⟩, -, -, -, -⟩ := hp
  obtain ⟨⟨A0, A1, A2, A3, c0, c1, c2, c3, rfl, -, -⟩, -⟩ := hs
  obtain ⟨⟨L0, cl, rfl, -⟩, hlen⟩ := hr
  unfold maxLen at hlen
  have T0 := TP.start w (planC P0 P1 P2 P3 d.n0 k0 d.n1 k1 d.n2 k2 d.n3 k3 d.l d.p d.t) (stC A0 A1 A2 A3 s.pods.length c0 s.mnts.length c1 s.devs.length c2 s.lks.length c3 s.ph s.co s.ck s.bo s.ba s.lb s.gd s.pr) (stC none none none none 0 0 0 0 0 0 0 0 0 false 0 0 0 0 0 0) 47 40 40
  go_enter Tryz.func18, Tryz.ntmps18
  go_wp2_with fail
  refine (specStateOk_any _ _ d s _ ((HP.out.below T0.A.K (Nat.le_refl _)).more T0.A.K.size) ((HS.out.below T0.A.K (Nat.le_refl _)).more T0.A.K.size).is).mono ?_
  rintro e w1 ⟨rfl, hb⟩
  have T1 := T0.step hb
  clear hb T0
  cases hok : stOkB d s
  · have HE := Lib.hid (appliedL_no (l := l) hok)
    clear hok
    have hD := T1.O.C
    have hG := T1.O.F
    go_wp2
    refine bodyPost_ret (v := .tuple #[.agg (stC none none none none 0 0 0 0 0 0 0 0 0 false 0 0 0 0 0 0), .bool false]) ?_ rfl ?_
    · simp [results, Tryz.results18, go_sem, hD]
    · rw [HE.out]
      refine ⟨_, rfl, OwnSt.zero _ _, ?_⟩
      iterate 12 (refine Below.setCell ?_ (by simp <;> omega) _)
      exact T1.A.K
  · have HE := Lib.hid (appliedL_all (l := l) hok)
    have HOK := Lib.hid (stOkB_iff.1 hok)
    clear hok
    have hC := T1.A.C
    have hS := T1.Z.C
    go_wp2_with fail
    obtain ⟨x, b, hxb⟩ : ∃ x b, appliedL d s l = (x, b) := by
      generalize appliedL d s l = q
      exact ⟨q.1, q.2, rfl⟩
    have hall := l6All_any _ _ _ d s l _ ((HP.out.below T1.A.K (Nat.le_refl _)).more T1.A.K.size) ((HS.out.below T1.A.K (Nat.le_refl _)).more T1.A.K.size) ((HR.out.below T1.A.K (Nat.le_refl _)).more T1.A.K.size) HOK.out
    rw [← HE.out, hxb] at hall
    have HXB := Lib.hid hxb
    clear hxb HE
    refine hall.mono ?_
    rintro e wc ⟨vc, h1, Oc, hb⟩
    dsimp only at h1 Oc
    subst h1
    have Tc := T1.step hb
    have hB2 := T1.O.z
    obtain ⟨u0, u1, u2, u3, rfl, z0, z1, z2, z3⟩ := Oc.it
    obtain ⟨D0, h0, rfl, -⟩ := open_rowR z0
    obtain ⟨D1, h1, rfl, -⟩ := open_rowR z1
    obtain ⟨D2, h2, rfl, -⟩ := open_rowR z2
    obtain ⟨D3, h3, rfl, -⟩ := open_rowR z3
    have HOc := Lib.hid Oc
    clear z0 z1 z2 z3 Oc hS hC
    have hD := Tc.O.C
    have hG := Tc.O.F
    go_wp2
    refine bodyPost_ret (v := .tuple #[.agg (stC D0 D1 D2 D3 x.pods.length h0 x.mnts.length h1 x.devs.length h2 x.lks.length h3 x.ph x.co x.ck x.bo x.ba x.lb x.gd x.pr), .bool b]) ?_ rfl ?_
    · simp [results, Tryz.results18, go_sem, hD]
    · rw [HXB.out]
      refine ⟨_, rfl, (HOc.out.keeps (keeps_put12 ..) fun r hr e => by subst e; have := (HOc.out.blocks hr).1; omega).base (by omega), ?_⟩
      iterate 12 (refine Below.setCell ?_ (by simp <;> omega) _)
      exact Tc.A.K

end Go.Proofs.YtlfppcppjbfieaaGreatDoor
/- Xm -/
set_option linter.unusedVariables false
namespace Go.Proofs.YtlfppcppjbfieaaGreatDoor
open Go.RowKit

set_option maxRecDepth 4000 in
set_option maxHeartbeats 8000000 in
theorem specRec_any (pv sv : Value) (d : PlanD) (s : StD) (r : RecD) (w : World) (hp : IsPlan w w.heap.size pv d) (hs : IsStR w w.heap.size sv s) :
    Calls Tryz.prog 7 #[pv, sv, recC r] w (Appl2 w (appliedS d s r)) := by
  have HP := Lib.hid hp
  have HS := Lib.hid hs
  obtain ⟨⟨P0, P1, P2, P3, k0, k1, k2, k3, rfl, -, -, -, -⟩, -, -, -, -⟩ := hp
  obtain ⟨⟨A0, A1, A2, A3, c0, c1, c2, c3, rfl, -, -⟩, hf⟩ := hs
  have HF := Lib.hid hf
  clear hf
  have T0 := Four.start w (planC P0 P1 P2 P3 d.n0 k0 d.n1 k1 d.n2 k2 d.n3 k3 d.l d.p d.t) (stC A0 A1 A2 A3 s.pods.length c0 s.mnts.length c1 s.devs.length c2 s.lks.length c3 s.ph s.co s.ck s.bo s.ba s.lb s.gd s.pr) #[.int .i64 r.k, .int .i64 r.a, .int .i64 r.b] (stC none none none none 0 0 0 0 0 0 0 0 0 false 0 0 0 0 0 0) 47 40 50 40
  go_enter Tryz.func7, Tryz.ntmps7
  go_wp2_with fail
  refine (specStateOk_any _ _ d s _ ((HP.out.below T0.P.K (Nat.le_refl _)).more T0.P.K.size) ((HS.out.below T0.P.K (Nat.le_refl _)).more T0.P.K.size).is).mono ?_
  rintro e w1 ⟨rfl, hb⟩
  have T1 := T0.step hb
  have hP := T1.P.C
  have hS := T1.S.C
  have hR := T1.R.C
  have hD := T1.O.C
  have hG := T1.O.F
  clear hb T0
  cases hok : stOkB d s
  · have he : appliedS d s r = (zeroS, false) := by unfold appliedS; rw [hok]; rfl
    have HE := Lib.hid he
    clear he
    go_wp2
    refine bodyPost_ret (v := .tuple #[.agg (stC none none none none 0 0 0 0 0 0 0 0 0 false 0 0 0 0 0 0), .bool false]) ?_ rfl ?_
    · simp [results, Tryz.results7, go_sem, hD]
    · rw [HE.out]
      refine ⟨_, rfl, OwnSt.zero _ _, ?_⟩
      iterate 12 (refine Below.setCell ?_ (by simp <;> omega) _)
      exact T1.P.K
  · have HOK := Lib.hid hok
    clear hok
    go_wp2_with fail
    refine (specRecOk_any r _).mono ?_
    rintro e w2 ⟨rfl, hb⟩
    have T2 := T1.step hb
    clear hb T1 hP hS hR hD hG
    have hP := T2.P.C
    have hS := T2.S.C
    have hR := T2.R.C
    have hD := T2.O.C
    have hG := T2.O.F
    cases hk : recOkB r
    · have he : appliedS d s r = (s, false) := by unfold appliedS goodR; rw [HOK.out, hk]; rfl
      have HE := Lib.hid he
      clear he hk
      go_wp2_with fail
      refine (l5Copy_any _ s _ ((HS.out.below T2.P.K (Nat.le_refl _)).more T2.P.K.size)).mono ?_
      rintro e wc ⟨vc, rfl, Oc, hb⟩
      have hw4 : w.heap.size + 4 ≤ wc.heap.size := Nat.le_trans T2.O.z hb.size
      have hw5 : w.heap.size + 4 ≤ _ := T2.O.z
      have Tc := T2.step hb
      obtain ⟨u0, u1, u2, u3, rfl, q0, q1, q2, q3⟩ := Oc.it
      have Q0 := Lib.hid (ownsRow_base q0 hw5)
      have Q1 := Lib.hid (ownsRow_base q1 hw5)
      have Q2 := Lib.hid (ownsRow_base q2 hw5)
      have Q3 := Lib.hid (ownsRow_base q3 hw5)
      obtain ⟨B0, e0, rfl, -⟩ := open_rowR q0
      obtain ⟨B1, e1, rfl, -⟩ := open_rowR q1
      obtain ⟨B2, e2, rfl, -⟩ := open_rowR q2
      obtain ⟨B3, e3, rfl, -⟩ := open_rowR q3
      clear hb T2 hP hS hR hD hG q0 q1 q2 q3 Oc hw4 hw5
      have hP := Tc.P.C
      have hS := Tc.S.C
      have hR := Tc.R.C
      have hD := Tc.O.C
      have hG := Tc.O.F
      go_wp2
      refine bodyPost_ret (v := .tuple #[.agg (stC B0 B1 B2 B3 s.pods.length e0 s.mnts.length e1 s.devs.length e2 s.lks.length e3 s.ph s.co s.ck s.bo s.ba s.lb s.gd s.pr), .bool false]) ?_ rfl ?_
      · simp [results, Tryz.results7, go_sem, hD]
      · rw [HE.out]
        refine ⟨_, rfl, ⟨_, _, _, _, rfl, ?_, ?_, ?_, ?_⟩, ?_⟩
        · refine ownsRow_base (base := w.heap.size + 4) ?_ (by omega)
          iterate 12 (refine ownsRow_setCell_below ?_ (by simp) _)
          exact Q0.out
        · refine ownsRow_base (base := w.heap.size + 4) ?_ (by omega)
          iterate 12 (refine ownsRow_setCell_below ?_ (by simp) _)
          exact Q1.out
        · refine ownsRow_base (base := w.heap.size + 4) ?_ (by omega)
          iterate 12 (refine ownsRow_setCell_below ?_ (by simp) _)
          exact Q2.out
        · refine ownsRow_base (base := w.heap.size + 4) ?_ (by omega)
          iterate 12 (refine ownsRow_setCell_below ?_ (by simp) _)
          exact Q3.out
        · iterate 12 (refine Below.setCell ?_ (by simp <;> omega) _)
          exact Tc.P.K
    · have HK := Lib.hid hk
      clear hk
      go_wp2_with fail
      refine (l6There_any _ s r _ ((HS.out.below T2.P.K (Nat.le_refl _)).more T2.P.K.size).is).mono ?_
      rintro e w3 ⟨rfl, hb⟩
      have T3 := T2.step hb
      clear hb T2 hP hS hR hD hG
      have hP := T3.P.C
      have hS := T3.S.C
      have hR := T3.R.C
      have hD := T3.O.C
      have hG := T3.O.F
      cases ht : thereB s r
      · have he : appliedS d s r = (s, false) := by unfold appliedS goodR; rw [HOK.out, HK.out, ht]; rfl
        have HE := Lib.hid he
        clear he ht
        go_wp2_with fail
        refine (l5Copy_any _ s _ ((HS.out.below T3.P.K (Nat.le_refl _)).more T3.P.K.size)).mono ?_
        rintro e wc ⟨vc, rfl, Oc, hb⟩
        have hw4 : w.heap.size + 4 ≤ wc.heap.size := Nat.le_trans T3.O.z hb.size
        have hw5 : w.heap.size + 4 ≤ _ := T3.O.z
        have Tc := T3.step hb
        obtain ⟨u0, u1, u2, u3, rfl, q0, q1, q2, q3⟩ := Oc.it
        have Q0 := Lib.hid (ownsRow_base q0 hw5)
        have Q1 := Lib.hid (ownsRow_base q1 hw5)
        have Q2 := Lib.hid (ownsRow_base q2 hw5)
        have Q3 := Lib.hid (ownsRow_base q3 hw5)
        obtain ⟨B0, e0, rfl, -⟩ := open_rowR q0
        obtain ⟨B1, e1, rfl, -⟩ := open_rowR q1
        obtain ⟨B2, e2, rfl, -⟩ := open_rowR q2
        obtain ⟨B3, e3, rfl, -⟩ := open_rowR q3
        clear hb T3 hP hS hR hD hG q0 q1 q2 q3 Oc hw4 hw5
        have hP := Tc.P.C
        have hS := Tc.S.C
        have hR := Tc.R.C
        have hD := Tc.O.C
        have hG := Tc.O.F
        go_wp2
        refine bodyPost_ret (v := .tuple #[.agg (stC B0 B1 B2 B3 s.pods.length e0 s.mnts.length e1 s.devs.length e2 s.lks.length e3 s.ph s.co s.ck s.bo s.ba s.lb s.gd s.pr), .bool false]) ?_ rfl ?_
        · simp [results, Tryz.results7, go_sem, hD]
        · rw [HE.out]
          refine ⟨_, rfl, ⟨_, _, _, _, rfl, ?_, ?_, ?_, ?_⟩, ?_⟩
          · refine ownsRow_base (base := w.heap.size + 4) ?_ (by omega)
            iterate 12 (refine ownsRow_setCell_below ?_ (by simp) _)
            exact Q0.out
          · refine ownsRow_base (base := w.heap.size + 4) ?_ (by omega)
            iterate 12 (refine ownsRow_setCell_below ?_ (by simp) _)
            exact Q1.out
          · refine ownsRow_base (base := w.heap.size + 4) ?_ (by omega)
            iterate 12 (refine ownsRow_setCell_below ?_ (by simp) _)
            exact Q2.out
          · refine ownsRow_base (base := w.heap.size + 4) ?_ (by omega)
            iterate 12 (refine ownsRow_setCell_below ?_ (by simp) _)
            exact Q3.out
          · iterate 12 (refine Below.setCell ?_ (by simp <;> omega) _)
            exact Tc.P.K
      · have HT := Lib.hid ht
        clear ht
        have H3 := Lib.hid T3
        have hRI : s.lks.Pairwise (· < ·) := (stOkB_iff.1 HOK.out).rise
        have HRI := Lib.hid hRI
        have HS3 : Hid (∀ W : World, Below w3.heap.size w3 W → IsStR W W.heap.size (.agg (stC A0 A1 A2 A3 s.pods.length c0 s.mnts.length c1 s.devs.length c2 s.lks.length c3 s.ph s.co s.ck s.bo s.ba s.lb s.gd s.pr)) s) := Lib.hid fun W hb => (HS.out.below (T3.step hb).P.K (Nat.le_refl _)).more (T3.step hb).P.K.size
        have KD := Lib.hid (Below.refl w3.heap.size w3).drew
        have KA := Lib.hid ((Below.refl w3.heap.size w3).alloc (Nat.le_refl _) (.cells (stC none none none none 0 0 0 0 0 0 0 0 0 false 0 0 0 0 0 0) 40)).drew
        have hw1 : w.heap.size + 1 < w3.heap.size := T3.S.z
        have hw2 : w.heap.size + 2 < w3.heap.size := T3.R.z
        have S0 : (∀ o, w3.cell? ⟨w.heap.size + 1, o, none⟩ = (stC A0 A1 A2 A3 s.pods.length c0 s.mnts.length c1 s.devs.length c2 s.lks.length c3 s.ph s.co s.ck s.bo s.ba s.lb s.gd s.pr)[o]?) ∧ (∀ o, w3.cell? ⟨w.heap.size + 2, o, none⟩ = (#[.int .i64 r.k, .int .i64 r.a, .int .i64 r.b] : Array Value)[o]?) ∧ Below w3.heap.size w3 w3 := ⟨hS, hR, Below.refl _ _⟩
        clear hRI T3 hP hS hR hD hG
        go_upto_region 5 with fail
        go_cut [8] from 25 to 28 (fun s8 wx => ∃ (g : Nat) (cs : Array Value), s8 = .pointer (some ⟨g, 0, none⟩) ∧ Below w3.heap.size w3 wx ∧ BoxS wx w3.heap.size g cs.toList ∧ OwnSt wx w3.heap.size (.agg cs) (applyR s r))
        case first =>
          go_region_held3 (fun w' => (∀ o, w'.cell? ⟨w.heap.size + 1, o, none⟩ = (stC A0 A1 A2 A3 s.pods.length c0 s.mnts.length c1 s.devs.length c2 s.lks.length c3 s.ph s.co s.ck s.bo s.ba s.lb s.gd s.pr)[o]?) ∧ (∀ o, w'.cell? ⟨w.heap.size + 2, o, none⟩ = (#[.int .i64 r.k, .int .i64 r.a, .int .i64 r.b] : Array Value)[o]?) ∧ Below w3.heap.size w3 w')
            (first | (with_reducible exact S6) | (with_reducible exact S5) | (with_reducible exact S0) | (refine ⟨fun o => (Below.cell (B := w3.heap.size) (w := w3) ?_ hw1).trans (S0.1 o), fun o => (Below.cell (B := w3.heap.size) (w := w3) ?_ hw2).trans (S0.2.1 o), ?_⟩ <;> (repeat (first | (with_reducible exact K6) | (with_reducible exact K5) | (with_reducible exact Below.refl _ _) | (with_reducible refine Below.drew ?_) | (with_reducible refine (fun h => Below.alloc h h.size _) ?_) | (with_reducible refine Below.setCell ?_ (by first | exact Nat.le_refl _ | exact K5.size | (simp <;> omega)) _)))))
            (first
              | (go_at_call 34
                 refine (l6Apply_any _ s r _ w3.heap.size (by first | exact K5.size | exact (K5.alloc K5.size _).size) (by first | exact B5.out | exact B5.out.below ((Below.refl _ _).alloc (Nat.le_refl _) _)) HK.out HT.out HF.out.f3 HRI.out).mono ?_
                 rintro e w6 ⟨v6, rfl, O6, k6⟩
                 have K6 : Below w3.heap.size w3 w6 := by
                   first
                   | exact K5.trans (k6.below K5.size fun b hb hr => by have := (B5.out.blocks hr).1; omega)
                   | exact (K5.alloc K5.size _).trans (k6.below (K5.alloc K5.size _).size fun b hb hr => by have := (B5.out.blocks hr).1; omega)
                 have S6 := And.intro (fun o => (K6.cell (p := ⟨w.heap.size + 1, o, none⟩) hw1).trans (S0.1 o)) (And.intro (fun o => (K6.cell (p := ⟨w.heap.size + 2, o, none⟩) hw2).trans (S0.2.1 o)) K6)
                 try have Z6 := Z5.out.keeps k6 (B5.out.apart Z5.out)
                 try have Z6 := ZN.out.keeps k6 ((B5.out.below ((Below.refl _ _).alloc (Nat.le_refl _) _)).apart ZN.out)
                 try have zC := Z6.C
                 try have zF := Z6.frozen
                 have HO6 := Lib.hid O6
                 obtain ⟨u0, u1, u2, u3, rfl, q0, q1, q2, q3⟩ := O6.it
                 obtain ⟨B0, e0, rfl, -⟩ := open_rowR q0
                 obtain ⟨B1, e1, rfl, -⟩ := open_rowR q1
                 obtain ⟨B2, e2, rfl, -⟩ := open_rowR q2
                 obtain ⟨B3, e3, rfl, -⟩ := open_rowR q3
                 clear q0 q1 q2 q3 O6 k6)
              | (go_at_call 33
                 refine (l5Copy_any _ s _ (HS3.out _ (by first | exact KD.out | exact KA.out))).mono ?_
                 rintro e w5 ⟨v5, rfl, O5, hb5⟩
                 have K5 : Below w3.heap.size w3 w5 := by first | exact KD.out.trans (hb5.mono KD.out.size) | exact KA.out.trans (hb5.mono KA.out.size)
                 have S5 := And.intro (fun o => (K5.cell (p := ⟨w.heap.size + 1, o, none⟩) hw1).trans (S0.1 o)) (And.intro (fun o => (K5.cell (p := ⟨w.heap.size + 2, o, none⟩) hw2).trans (S0.2.1 o)) K5)
                 have B5 := Lib.hid (O5.base (B' := w3.heap.size) (by first | exact KD.out.size | exact KA.out.size))
                 have ZN : Hid (BoxS (w5.alloc (.cells (stC none none none none 0 0 0 0 0 0 0 0 0 false 0 0 0 0 0 0) 40)) w3.heap.size w5.heap.size (stC none none none none 0 0 0 0 0 0 0 0 0 false 0 0 0 0 0 0).toList) := Lib.hid (BoxS.new rfl K5.size rfl)
                 try have Z5 := Lib.hid ((show BoxS (w3.alloc (.cells (stC none none none none 0 0 0 0 0 0 0 0 0 false 0 0 0 0 0 0) 40)).drew w3.heap.size w3.heap.size (stC none none none none 0 0 0 0 0 0 0 0 0 false 0 0 0 0 0 0).toList from BoxS.new rfl (Nat.le_refl _) rfl).go hb5)))
          all_goals (go_wp2_with fail; go_meet)
          all_goals first
            | (have hz := Z6.lt.1
               apply Exists.intro
               apply Exists.intro
               refine ⟨rfl, K6.trans ((keeps_put12 ..).below K6.size fun b hb e => by subst e; omega), Z6.put .., HO6.out.keeps (keeps_put12 ..) fun b hb e => HO6.out.apart Z6 (by rw [← e]; exact hb)⟩)
            | (apply Exists.intro
               apply Exists.intro
               exact ⟨rfl, K6.alloc K6.size _, BoxS.new rfl K6.size rfl, HO6.out.below ((Below.refl _ _).alloc (Nat.le_refl _) _)⟩)
        case rest =>
          obtain ⟨g, cs, rfl, K, X, O⟩ := hcut
          have T4 := H3.out.step K
          have HGD : Hid (stOkB d (applyR s r) = goodR d s r) := Lib.hid (by simp [goodR, HK.out, HT.out])
          have HA : Hid (appliedS d s r = if goodR d s r then (applyR s r, true) else (s, false)) := Lib.hid (by unfold appliedS; rw [HOK.out]; rfl)
          generalize applyR s r = t2 at O HGD HA
          obtain ⟨u0, u1, u2, u3, hv, z0, z1, z2, z3⟩ := O.it
          injection hv with hv
          subst hv
          obtain ⟨G0, m0, rfl, -⟩ := open_rowR z0
          obtain ⟨G1, m1, rfl, -⟩ := open_rowR z1
          obtain ⟨G2, m2, rfl, -⟩ := open_rowR z2
          obtain ⟨G3, m3, rfl, -⟩ := open_rowR z3
          clear z0 z1 z2 z3 K S0 KD KA HS3 HRI
          have hP := T4.P.C
          have hX := X.C
          go_wp2_with fail
          refine (specStateOk_any _ _ d t2 _ ((HP.out.below T4.P.K (Nat.le_refl _)).more T4.P.K.size) O.st).mono ?_
          rintro e w5 ⟨rfl, hb⟩
          have T5 := T4.step hb
          have X5 := X.go hb
          have O5 := O.below hb
          have hw35 : w.heap.size + 4 ≤ w3.heap.size := H3.out.O.z
          clear hb hP hX T4 X O H3
          have hP := T5.P.C
          have hS := T5.S.C
          have hR := T5.R.C
          have hD := T5.O.C
          have hG := T5.O.F
          cases h3 : stOkB d t2
          · have he : appliedS d s r = (s, false) := by rw [HA.out, ← HGD.out, h3]; rfl
            have HE := Lib.hid he
            clear he h3
            go_wp2_with fail
            refine (l5Copy_any _ s _ ((HS.out.below T5.P.K (Nat.le_refl _)).more T5.P.K.size)).mono ?_
            rintro e wc ⟨vc, rfl, Oc, hb⟩
            have hw4 : w.heap.size + 4 ≤ wc.heap.size := Nat.le_trans T5.O.z hb.size
            have hw5 : w.heap.size + 4 ≤ _ := T5.O.z
            have Tc := T5.step hb
            obtain ⟨u0, u1, u2, u3, rfl, q0, q1, q2, q3⟩ := Oc.it
            have Q0 := Lib.hid (ownsRow_base q0 hw5)
            have Q1 := Lib.hid (ownsRow_base q1 hw5)
            have Q2 := Lib.hid (ownsRow_base q2 hw5)
            have Q3 := Lib.hid (ownsRow_base q3 hw5)
            obtain ⟨B0, e0, rfl, -⟩ := open_rowR q0
            obtain ⟨B1, e1, rfl, -⟩ := open_rowR q1
            obtain ⟨B2, e2, rfl, -⟩ := open_rowR q2
            obtain ⟨B3, e3, rfl, -⟩ := open_rowR q3
            clear hb T5 hP hS hR hD hG q0 q1 q2 q3 Oc hw4 hw5
            have hP := Tc.P.C
            have hS := Tc.S.C
            have hR := Tc.R.C
            have hD := Tc.O.C
            have hG := Tc.O.F
            go_wp2
            refine bodyPost_ret (v := .tuple #[.agg (stC B0 B1 B2 B3 s.pods.length e0 s.mnts.length e1 s.devs.length e2 s.lks.length e3 s.ph s.co s.ck s.bo s.ba s.lb s.gd s.pr), .bool false]) ?_ rfl ?_
            · simp [results, Tryz.results7, go_sem, hD]
            · rw [HE.out]
              refine ⟨_, rfl, ⟨_, _, _, _, rfl, ?_, ?_, ?_, ?_⟩, ?_⟩
              · refine ownsRow_base (base := w.heap.size + 4) ?_ (by omega)
                iterate 12 (refine ownsRow_setCell_below ?_ (by simp) _)
                exact Q0.out
              · refine ownsRow_base (base := w.heap.size + 4) ?_ (by omega)
                iterate 12 (refine ownsRow_setCell_below ?_ (by simp) _)
                exact Q1.out
              · refine ownsRow_base (base := w.heap.size + 4) ?_ (by omega)
                iterate 12 (refine ownsRow_setCell_below ?_ (by simp) _)
                exact Q2.out
              · refine ownsRow_base (base := w.heap.size + 4) ?_ (by omega)
                iterate 12 (refine ownsRow_setCell_below ?_ (by simp) _)
                exact Q3.out
              · iterate 12 (refine Below.setCell ?_ (by simp <;> omega) _)
                exact Tc.P.K
          · have he : appliedS d s r = (t2, true) := by rw [HA.out, ← HGD.out, h3]; rfl
            have HE := Lib.hid he
            clear he h3
            have hX := X5.C
            go_wp2
            refine bodyPost_ret (v := .tuple #[.agg (stC G0 G1 G2 G3 t2.pods.length m0 t2.mnts.length m1 t2.devs.length m2 t2.lks.length m3 t2.ph t2.co t2.ck t2.bo t2.ba t2.lb t2.gd t2.pr), .bool true]) ?_ rfl ?_
            · simp [results, Tryz.results7, go_sem, hD]
            · rw [HE.out]
              refine ⟨_, rfl, (O5.keeps (keeps_put12 ..) fun r hr e => by subst e; have := (O5.blocks hr).1; omega).base (by omega), ?_⟩
              iterate 12 (refine Below.setCell ?_ (by simp <;> omega) _)
              exact T5.P.K
end Go.Proofs.YtlfppcppjbfieaaGreatDoor
/- Yd -/
set_option linter.unusedVariables false
namespace Go.Proofs.YtlfppcppjbfieaaGreatDoor
open Go.RowKit

set_option maxRecDepth 100000 in
set_option maxHeartbeats 16000000 in
theorem lawRec (pv sv : Value) (d : PlanD) (s : StD) (r : RecD) (w : World) (hp : IsPlan w w.heap.size pv d) (hs : IsSt w w.heap.size sv s) (hN : Names w) :
    Calls Tryz.prog 3 #[pv, sv, recC r] w fun e w' => e = .returned (.bool true) ∧ Below w.heap.size w w' := by
  have H := Lib.hid hp
  have HS := Lib.hid hs
  have HN := Lib.hid hN
  clear hN
  unfold recC
  obtain ⟨⟨A0, A1, A2, A3, c0, c1, c2, c3, rfl, -, -, -, -⟩, b0, b1, b2, b3⟩ := hp
  obtain ⟨⟨E0, E1, E2, E3, k0, k1, k2, k3, rfl, -, -, -, -⟩, -, -, -, -⟩ := hs
  have B0 := Lib.hid b0
  have B1 := Lib.hid b1
  have B2 := Lib.hid b2
  have B3 := Lib.hid b3
  clear b0 b1 b2 b3
  go_enter Tryz.func3, Tryz.ntmps3
  go_wp2_with fail
  have T := TP.start w (planC A0 A1 A2 A3 d.n0 c0 d.n1 c1 d.n2 c2 d.n3 c3 d.l d.p d.t) (stC E0 E1 E2 E3 s.pods.length k0 s.mnts.length k1 s.devs.length k2 s.lks.length k3 s.ph s.co s.ck s.bo s.ba s.lb s.gd s.pr) (#[.int .i64 r.k, .int .i64 r.a, .int .i64 r.b]) 27 32 34
  refine (szPlan_any _ d _ ((H.out.below T.A.K (Nat.le_refl _)).more T.A.K.size)).mono ?_
  rintro e w2 ⟨rfl, hb⟩
  replace T := T.step hb
  have hC := T.A.C
  have hD := T.Z.C
  clear hb
  by_cases hsz : d.n0 + d.n1 + d.n2 + d.n3 ≤ 1048576
  · have e0 : szP d = 1048576 - d.n0 - d.n1 - d.n2 - d.n3 := if_pos hsz
    have l0 : 0 ≤ szP d := by omega
    have l1 : szP d ≤ 1048576 := by omega
    clear e0
    generalize szP d = left at *
    go_wp2_with fail
    refine (szState_any _ s left _ ((HS.out.below T.A.K (Nat.le_refl _)).more T.A.K.size) l0 l1).mono ?_
    rintro e w3 ⟨rfl, hb⟩
    replace T := T.step hb
    clear hb hC hD
    by_cases hsz2 : (s.pods.length + s.mnts.length + s.devs.length + s.lks.length : Nat) ≤ left
    · have e0 : szS left s = left - (s.pods.length + s.mnts.length + s.devs.length + s.lks.length : Nat) := if_pos hsz2
      have l2 : 0 ≤ szS left s := by omega
      have l3 : szS left s ≤ 1048576 := by omega
      have hfit : StFits s 1048576 := ⟨by omega, by omega, by omega, by omega⟩
      have F := Lib.hid hfit
      have TS : Hid ((totS s : Int) ≤ 2097152) := Lib.hid (by have := tot_half hsz2; omega)
      clear e0 hsz2 hfit
      generalize szS left s = left2 at *
      have l4 := l2
      have q0 : Hid (d.n0 ≤ 1048576) := Lib.hid (by omega)
      have q1 : Hid (d.n1 ≤ 1048576) := Lib.hid (by omega)
      have q2 : Hid (d.n2 ≤ 1048576) := Lib.hid (by omega)
      have q3 : Hid (d.n3 ≤ 1048576) := Lib.hid (by omega)
      have PS : Hid ((1 + 4 * d.n0 + d.n1 + 2 * d.n2 + d.n3 : Int) ≤ 4194305) := Lib.hid (by omega)
      clear hsz l0 l1 l3
      obtain ⟨x, b, hxb⟩ : ∃ x b, appliedS d s r = (x, b) := by
        generalize appliedS d s r = q
        exact ⟨q.1, q.2, rfl⟩
      have HXB := Lib.hid hxb
      have FX : Hid (StFits x 1048576) := Lib.hid (by have := appliedS_fits (d := d) (r := r) F.out; rw [hxb] at this; exact this)
      have TX : Hid ((totS x : Int) ≤ 6291456) := Lib.hid (by have := fits_tot FX.out; omega)
      clear hxb
      go_upto_region 8 with fail
      have K0 : Below w3.heap.size w3 w3 := Below.refl _ _
      have S0 : (∀ o, w3.cell? ⟨w.heap.size, o, none⟩ = (planC A0 A1 A2 A3 d.n0 c0 d.n1 c1 d.n2 c2 d.n3 c3 d.l d.p d.t)[o]?) ∧ (∀ o, w3.cell? ⟨w.heap.size + 1, o, none⟩ = (stC E0 E1 E2 E3 s.pods.length k0 s.mnts.length k1 s.devs.length k2 s.lks.length k3 s.ph s.co s.ck s.bo s.ba s.lb s.gd s.pr)[o]?) ∧ (∀ o, w3.cell? ⟨w.heap.size + 1 + 1, o, none⟩ = (#[.int .i64 r.k, .int .i64 r.a, .int .i64 r.b])[o]?) ∧ Below w3.heap.size w3 w3 := ⟨T.A.C, T.Z.C, T.O.C, K0⟩
      have hw0 : w.heap.size < w3.heap.size := T.A.z
      have hw1 : w.heap.size + 1 < w3.heap.size := T.Z.z
      have hw2 : w.heap.size + 1 + 1 < w3.heap.size := T.O.z
      go_cut [8, 9] from 29 to 38 (fun s8 s9 wx => ∃ (g : Nat) (cs : Array Value), s8 = .pointer (some ⟨g, 0, none⟩) ∧ s9 = .bool b ∧ Below w3.heap.size w3 wx ∧ BoxS wx w3.heap.size g cs.toList ∧ OwnSt wx w3.heap.size (.agg cs) x)
      case first =>
        go_region_held3 (fun w' => (∀ o, w'.cell? ⟨w.heap.size, o, none⟩ = (planC A0 A1 A2 A3 d.n0 c0 d.n1 c1 d.n2 c2 d.n3 c3 d.l d.p d.t)[o]?) ∧ (∀ o, w'.cell? ⟨w.heap.size + 1, o, none⟩ = (stC E0 E1 E2 E3 s.pods.length k0 s.mnts.length k1 s.devs.length k2 s.lks.length k3 s.ph s.co s.ck s.bo s.ba s.lb s.gd s.pr)[o]?) ∧ (∀ o, w'.cell? ⟨w.heap.size + 1 + 1, o, none⟩ = (#[.int .i64 r.k, .int .i64 r.a, .int .i64 r.b])[o]?) ∧ Below w3.heap.size w3 w')
          (first | (with_reducible exact S4) | (with_reducible exact S3) | (with_reducible exact S2) | (with_reducible exact S1) | (with_reducible exact S0) | (refine ⟨fun o => (Below.cell (B := w3.heap.size) (w := w3) ?_ hw0).trans (S0.1 o), fun o => (Below.cell (B := w3.heap.size) (w := w3) ?_ hw1).trans (S0.2.1 o), fun o => (Below.cell (B := w3.heap.size) (w := w3) ?_ hw2).trans (S0.2.2.1 o), ?_⟩ <;> (repeat (first | (with_reducible exact K4) | (with_reducible exact K3) | (with_reducible exact K2) | (with_reducible exact K1) | (with_reducible exact Below.refl _ _) | (with_reducible refine Below.drew ?_) | (with_reducible refine (fun h => Below.alloc h h.size _) ?_) | (with_reducible refine Below.setCell ?_ (by first | exact Z.lt.1 | exact Nat.le_refl _) _)))))
          (first
          | (go_at_call 7
             have hq := K3
             clear hq
             first
             | (with_reducible refine calls_at (fun W' => Below w3_.heap.size w3_ W' ∧ BoxS W' w3.heap.size w3_.heap.size (stC none none none none 0 0 0 0 0 0 0 0 0 false 0 0 0 0 0 0).toList) ⟨(Below.refl _ _).alloc (Nat.le_refl _) (.cells (stC none none none none 0 0 0 0 0 0 0 0 0 false 0 0 0 0 0 0) 40), BoxS.new rfl K3.size rfl⟩ ?_
                rintro W' ⟨hW, Z⟩)
             | (with_reducible refine calls_at (fun W' => Below w3_.heap.size w3_ W' ∧ BoxS W' w3.heap.size w3_.heap.size (stC none none none none 0 0 0 0 0 0 0 0 0 false 0 0 0 0 0 0).toList) ⟨((Below.refl _ _).alloc (Nat.le_refl _) (.cells (stC none none none none 0 0 0 0 0 0 0 0 0 false 0 0 0 0 0 0) 40)).drew, BoxS.go (BoxS.new rfl K3.size rfl) (Below.refl _ _).drew⟩ ?_
                rintro W' ⟨hW, Z⟩)
             | (with_reducible refine calls_at (fun W' => Below w3_.heap.size w3_ W') (Below.refl _ _) ?_
                intro W' hW
                try replace Z := Z.go hW)
             | (with_reducible refine calls_at (fun W' => Below w3_.heap.size w3_ W') (Below.refl _ _).drew ?_
                intro W' hW
                try replace Z := Z.go hW)
             have hall := specRec_any _ _ d s r W' (P1.out.go (((K12.trans (K23.mono K12.size)).trans (hW.mono (K12.trans (K23.mono K12.size)).size)))) (Q2.out.go (K23.trans (hW.mono K23.size)))
             rw [HXB.out] at hall
             refine hall.mono ?_
             clear hall
             rintro e w4_ ⟨v4_, h4_, O4_, hb⟩
             dsimp only at h4_ O4_
             subst h4_
             have K4 : Below w3.heap.size w3 w4_ := K3.trans ((hW.trans (hb.mono hW.size)).mono K3.size)
             try replace Z := Z.go hb
             have S4 := And.intro (T.step K4).A.C (And.intro (T.step K4).Z.C (And.intro (T.step K4).O.C K4))
             try have zC := Z.C
             try have zF := Z.frozen
             replace O4_ := O4_.base (Nat.le_trans K3.size hW.size)
             have HO4 := Lib.hid O4_
             obtain ⟨u0, u1, u2, u3, rfl, y0, y1, y2, y3⟩ := O4_.it
             obtain ⟨G0, m0, rfl, -⟩ := open_rowR y0
             obtain ⟨G1, m1, rfl, -⟩ := open_rowR y1
             obtain ⟨G2, m2, rfl, -⟩ := open_rowR y2
             obtain ⟨G3, m3, rfl, -⟩ := open_rowR y3
             clear y0 y1 y2 y3 O4_ hb hW)
          | (go_at_call 10
             have hq := K2
             clear hq
             first
             | (with_reducible refine calls_at (fun W' => Below w2_.heap.size w2_ W' ∧ BoxS W' w3.heap.size w2_.heap.size (stC none none none none 0 0 0 0 0 0 0 0 0 false 0 0 0 0 0 0).toList) ⟨(Below.refl _ _).alloc (Nat.le_refl _) (.cells (stC none none none none 0 0 0 0 0 0 0 0 0 false 0 0 0 0 0 0) 40), BoxS.new rfl K2.size rfl⟩ ?_
                rintro W' ⟨hW, Z⟩)
             | (with_reducible refine calls_at (fun W' => Below w2_.heap.size w2_ W' ∧ BoxS W' w3.heap.size w2_.heap.size (stC none none none none 0 0 0 0 0 0 0 0 0 false 0 0 0 0 0 0).toList) ⟨((Below.refl _ _).alloc (Nat.le_refl _) (.cells (stC none none none none 0 0 0 0 0 0 0 0 0 false 0 0 0 0 0 0) 40)).drew, BoxS.go (BoxS.new rfl K2.size rfl) (Below.refl _ _).drew⟩ ?_
                rintro W' ⟨hW, Z⟩)
             | (with_reducible refine calls_at (fun W' => Below w2_.heap.size w2_ W') (Below.refl _ _) ?_
                intro W' hW
                try replace Z := Z.go hW)
             | (with_reducible refine calls_at (fun W' => Below w2_.heap.size w2_ W') (Below.refl _ _).drew ?_
                intro W' hW
                try replace Z := Z.go hW)
             refine (toRec_any r.k r.a r.b W').mono ?_
             rintro e w3_ ⟨rfl, hb⟩
             have K23 : Below w2_.heap.size w2_ w3_ := hW.trans (hb.mono hW.size)
             have K3 : Below w3.heap.size w3 w3_ := K2.trans ((hW.trans (hb.mono hW.size)).mono K2.size)
             try replace Z := Z.go hb
             have S3 := And.intro (T.step K3).A.C (And.intro (T.step K3).Z.C (And.intro (T.step K3).O.C K3))
             clear hb hW)
          | (go_at_call 9
             have hq := K1
             clear hq
             first
             | (with_reducible refine calls_at (fun W' => Below w1_.heap.size w1_ W' ∧ BoxS W' w3.heap.size w1_.heap.size (stC none none none none 0 0 0 0 0 0 0 0 0 false 0 0 0 0 0 0).toList) ⟨(Below.refl _ _).alloc (Nat.le_refl _) (.cells (stC none none none none 0 0 0 0 0 0 0 0 0 false 0 0 0 0 0 0) 40), BoxS.new rfl K1.size rfl⟩ ?_
                rintro W' ⟨hW, Z⟩)
             | (with_reducible refine calls_at (fun W' => Below w1_.heap.size w1_ W' ∧ BoxS W' w3.heap.size w1_.heap.size (stC none none none none 0 0 0 0 0 0 0 0 0 false 0 0 0 0 0 0).toList) ⟨((Below.refl _ _).alloc (Nat.le_refl _) (.cells (stC none none none none 0 0 0 0 0 0 0 0 0 false 0 0 0 0 0 0) 40)).drew, BoxS.go (BoxS.new rfl K1.size rfl) (Below.refl _ _).drew⟩ ?_
                rintro W' ⟨hW, Z⟩)
             | (with_reducible refine calls_at (fun W' => Below w1_.heap.size w1_ W') (Below.refl _ _) ?_
                intro W' hW
                try replace Z := Z.go hW)
             | (with_reducible refine calls_at (fun W' => Below w1_.heap.size w1_ W') (Below.refl _ _).drew ?_
                intro W' hW
                try replace Z := Z.go hW)
             refine (toState_any _ s W' ((HS.out.below (T.step (K1.trans (hW.mono K1.size))).A.K (Nat.le_refl _)).more (T.step (K1.trans (hW.mono K1.size))).A.K.size) F.out).mono ?_
             rintro e w2_ ⟨q0_, q1_, q2_, q3_, rfl, N2, hb⟩
             have Q2 := Lib.hid (N2.isR F.out)
             have K12 : Below w1_.heap.size w1_ w2_ := hW.trans (hb.mono hW.size)
             have K2 : Below w3.heap.size w3 w2_ := K1.trans ((hW.trans (hb.mono hW.size)).mono K1.size)
             try replace Z := Z.go hb
             have S2 := And.intro (T.step K2).A.C (And.intro (T.step K2).Z.C (And.intro (T.step K2).O.C K2))
             clear hb hW N2)
          | (go_at_call 8
             first
             | (with_reducible refine calls_at (fun W' => Below w3.heap.size w3 W' ∧ BoxS W' w3.heap.size w3.heap.size (stC none none none none 0 0 0 0 0 0 0 0 0 false 0 0 0 0 0 0).toList) ⟨(Below.refl _ _).alloc (Nat.le_refl _) (.cells (stC none none none none 0 0 0 0 0 0 0 0 0 false 0 0 0 0 0 0) 40), BoxS.new rfl K0.size rfl⟩ ?_
                rintro W' ⟨hW, Z⟩)
             | (with_reducible refine calls_at (fun W' => Below w3.heap.size w3 W' ∧ BoxS W' w3.heap.size w3.heap.size (stC none none none none 0 0 0 0 0 0 0 0 0 false 0 0 0 0 0 0).toList) ⟨((Below.refl _ _).alloc (Nat.le_refl _) (.cells (stC none none none none 0 0 0 0 0 0 0 0 0 false 0 0 0 0 0 0) 40)).drew, BoxS.go (BoxS.new rfl K0.size rfl) (Below.refl _ _).drew⟩ ?_
                rintro W' ⟨hW, Z⟩)
             | (with_reducible refine calls_at (fun W' => Below w3.heap.size w3 W') (Below.refl _ _) ?_
                intro W' hW
                try replace Z := Z.go hW)
             | (with_reducible refine calls_at (fun W' => Below w3.heap.size w3 W') (Below.refl _ _).drew ?_
                intro W' hW
                try replace Z := Z.go hW)
             refine (toPlan_any _ d W' ((H.out.below (T.step hW).A.K (Nat.le_refl _)).more (T.step hW).A.K.size) q0.out q1.out q2.out q3.out).mono ?_
             rintro e w1_ ⟨p0_, p1_, p2_, p3_, rfl, N1, hb⟩
             have P1 := Lib.hid (N1.is B0.out B1.out B2.out B3.out)
             have K1 : Below w3.heap.size w3 w1_ := K0.trans ((hW.trans (hb.mono hW.size)).mono K0.size)
             try replace Z := Z.go hb
             have S1 := And.intro (T.step K1).A.C (And.intro (T.step K1).Z.C (And.intro (T.step K1).O.C K1))
             clear hb hW N1))
        all_goals (go_wp2_with fail; go_meet)
        all_goals first
          | (have hz := Z.lt.1
             apply Exists.intro
             apply Exists.intro
             refine ⟨rfl, rfl, K4.trans ((keeps_put12 ..).below K4.size fun b hb e => by subst e; omega), Z.put .., HO4.out.keeps (keeps_put12 ..) fun b hb e => HO4.out.apart Z (by rw [← e]; exact hb)⟩)
          | (apply Exists.intro
             apply Exists.intro
             exact ⟨rfl, rfl, K4.alloc K4.size _, BoxS.new rfl K4.size rfl, HO4.out.below ((Below.refl _ _).alloc (Nat.le_refl _) _)⟩)
      case rest =>
        obtain ⟨g, cs, rfl, rfl, K, BX, O⟩ := hcut
        have hα := hw2
        replace T := T.step K
        have V0 := BX.own T.A.K
        obtain ⟨hg0, hg1⟩ := BX.lt
        obtain ⟨u0, u1, u2, u3, hv, y0, y1, y2, y3⟩ := O.it
        injection hv with hv
        subst hv
        obtain ⟨G0, m0, rfl, -⟩ := open_rowR y0
        obtain ⟨G1, m1, rfl, -⟩ := open_rowR y1
        obtain ⟨G2, m2, rfl, -⟩ := open_rowR y2
        obtain ⟨G3, m3, rfl, -⟩ := open_rowR y3
        have Z0 := RowsIn.of O K.size
        clear y0 y1 y2 y3 O BX S0 K0 hw0 hw1 hw2
        have hαβ := K.size
        clear K
        generalize w3.heap.size = α at hα hg0 hαβ Z0
        have hC := T.A.C
        go_wp2_with fail
        refine (toPlan_any _ d _ ((H.out.below T.A.K (Nat.le_refl _)).more T.A.K.size) q0.out q1.out q2.out q3.out).mono ?_
        rintro e w5 ⟨a0, a1, a2, a3, rfl, N, hb⟩
        have hβa := N.l0
        have a01 := N.l1
        have a12 := N.l2
        have a23 := N.l3
        have a3z := N.l4
        have P := Lib.hid (N.is B0.out B1.out B2.out B3.out)
        replace T := T.step hb
        replace V0 := V0.step hb
        replace Z0 := Z0.go hb
        clear hb
        generalize wc.heap.size = β at Z0 hg1 hαβ hβa
        clear hC
        have hC := T.A.C
        have hD := T.Z.C
        have hz := T.A.z
        have hz1 := T.Z.z
        go_wp2_with fail
        clear hC hD hz hz1
        have hb : Below w5.heap.size w5 (w5.alloc (.cells (planC (some ⟨a0, 0, none⟩) (some ⟨a1, 0, none⟩) (some ⟨a2, 0, none⟩) (some ⟨a3, 0, none⟩) d.n0 d.n0 d.n1 d.n1 d.n2 d.n2 d.n3 d.n3 d.l d.p d.t) 47)) := (Below.refl _ _).alloc (Nat.le_refl _) _
        have U := Own.box2 T.A.K (planC (some ⟨a0, 0, none⟩) (some ⟨a1, 0, none⟩) (some ⟨a2, 0, none⟩) (some ⟨a3, 0, none⟩) d.n0 d.n0 d.n1 d.n1 d.n2 d.n2 d.n3 d.n3 d.l d.p d.t) 47
        have Ul : w5.heap.size < (w5.alloc (.cells (planC (some ⟨a0, 0, none⟩) (some ⟨a1, 0, none⟩) (some ⟨a2, 0, none⟩) (some ⟨a3, 0, none⟩) d.n0 d.n0 d.n1 d.n1 d.n2 d.n2 d.n3 d.n3 d.l d.p d.t) 47)).heap.size := by rw [heap_size_alloc_]; omega
        replace T := T.step hb
        replace V0 := V0.step hb
        replace Z0 := Z0.go hb
        replace N := N.below hb
        replace P := Lib.hid (P.out.go hb)
        clear hb
        generalize hw : w5.alloc (.cells (planC (some ⟨a0, 0, none⟩) (some ⟨a1, 0, none⟩) (some ⟨a2, 0, none⟩) (some ⟨a3, 0, none⟩) d.n0 d.n0 d.n1 d.n1 d.n2 d.n2 d.n3 d.n3 d.l d.p d.t) 47) = w6 at T V0 Z0 N P U Ul ⊢
        generalize hg : w5.heap.size = γ at U Ul a3z ⊢
        clear hw hg
        refine (toState_any _ s _ ((HS.out.below T.A.K (Nat.le_refl _)).more T.A.K.size) F.out).mono ?_
        rintro e w7 ⟨r0, r1, r2, r3, rfl, M, hb⟩
        have Y := M.rowsIn
        have Q := Lib.hid (M.isR F.out)
        have hδ := hb.size
        replace T := T.step hb
        replace V0 := V0.step hb
        replace Z0 := Z0.go hb
        replace N := N.below hb
        replace P := Lib.hid (P.out.go hb)
        replace U := U.step hb
        clear hb
        clear M
        generalize w6.heap.size = δ at Ul Y hδ
        unfold newStV
        go_wp2_with fail
        have hb : Below w7.heap.size w7 (w7.alloc (.cells (stC (some ⟨r0, 0, none⟩) (some ⟨r1, 0, none⟩) (some ⟨r2, 0, none⟩) (some ⟨r3, 0, none⟩) s.pods.length s.pods.length s.mnts.length s.mnts.length s.devs.length s.devs.length s.lks.length s.lks.length s.ph s.co s.ck s.bo s.ba s.lb s.gd s.pr) 40)) := (Below.refl _ _).alloc (Nat.le_refl _) _
        have V1 := Own.box2 T.A.K (stC (some ⟨r0, 0, none⟩) (some ⟨r1, 0, none⟩) (some ⟨r2, 0, none⟩) (some ⟨r3, 0, none⟩) s.pods.length s.pods.length s.mnts.length s.mnts.length s.devs.length s.devs.length s.lks.length s.lks.length s.ph s.co s.ck s.bo s.ba s.lb s.gd s.pr) 40
        have V1l : w7.heap.size < (w7.alloc (.cells (stC (some ⟨r0, 0, none⟩) (some ⟨r1, 0, none⟩) (some ⟨r2, 0, none⟩) (some ⟨r3, 0, none⟩) s.pods.length s.pods.length s.mnts.length s.mnts.length s.devs.length s.devs.length s.lks.length s.lks.length s.ph s.co s.ck s.bo s.ba s.lb s.gd s.pr) 40)).heap.size := by rw [heap_size_alloc_]; omega
        replace T := T.step hb
        replace V0 := V0.step hb
        replace Z0 := Z0.go hb
        replace N := N.below hb
        replace P := Lib.hid (P.out.go hb)
        replace U := U.step hb
        replace Y := Y.go hb
        replace Q := Lib.hid (Q.out.go hb)
        clear hb
        generalize hw : w7.alloc (.cells (stC (some ⟨r0, 0, none⟩) (some ⟨r1, 0, none⟩) (some ⟨r2, 0, none⟩) (some ⟨r3, 0, none⟩) s.pods.length s.pods.length s.mnts.length s.mnts.length s.devs.length s.devs.length s.lks.length s.lks.length s.ph s.co s.ck s.bo s.ba s.lb s.gd s.pr) 40) = w8 at T V0 Z0 N P U Y Q V1 V1l ⊢
        generalize hg : w7.heap.size = ζ at V1 V1l Y hδ ⊢
        clear hw hg
        go_upto_region 11 with fail
        have K0 : Below w8.heap.size w8 w8 := Below.refl _ _
        have S0 : (∀ o, w8.cell? ⟨γ, o, none⟩ = (planC (some ⟨a0, 0, none⟩) (some ⟨a1, 0, none⟩) (some ⟨a2, 0, none⟩) (some ⟨a3, 0, none⟩) d.n0 d.n0 d.n1 d.n1 d.n2 d.n2 d.n3 d.n3 d.l d.p d.t)[o]?) ∧ (∀ o, w8.cell? ⟨ζ, o, none⟩ = (stC (some ⟨r0, 0, none⟩) (some ⟨r1, 0, none⟩) (some ⟨r2, 0, none⟩) (some ⟨r3, 0, none⟩) s.pods.length s.pods.length s.mnts.length s.mnts.length s.devs.length s.devs.length s.lks.length s.lks.length s.ph s.co s.ck s.bo s.ba s.lb s.gd s.pr)[o]?) ∧ (∀ o, w8.cell? ⟨w.heap.size + 1 + 1, o, none⟩ = (#[.int .i64 r.k, .int .i64 r.a, .int .i64 r.b])[o]?) ∧ Below w8.heap.size w8 w8 := ⟨U.C, V1.C, T.O.C, K0⟩
        have hw0 : γ < w8.heap.size := U.z
        have hw1 : ζ < w8.heap.size := V1.z
        have hw2 : w.heap.size + 1 + 1 < w8.heap.size := T.O.z
        go_cut [12, 13] from 43 to 50 (fun s8 s9 wx => ∃ (g : Nat) (cs : Array Value), s8 = .pointer (some ⟨g, 0, none⟩) ∧ s9 = .bool b ∧ Below w8.heap.size w8 wx ∧ BoxS wx w8.heap.size g cs.toList ∧ OwnSt wx w8.heap.size (.agg cs) x)
        case first =>
          go_region_held3 (fun w' => (∀ o, w'.cell? ⟨γ, o, none⟩ = (planC (some ⟨a0, 0, none⟩) (some ⟨a1, 0, none⟩) (some ⟨a2, 0, none⟩) (some ⟨a3, 0, none⟩) d.n0 d.n0 d.n1 d.n1 d.n2 d.n2 d.n3 d.n3 d.l d.p d.t)[o]?) ∧ (∀ o, w'.cell? ⟨ζ, o, none⟩ = (stC (some ⟨r0, 0, none⟩) (some ⟨r1, 0, none⟩) (some ⟨r2, 0, none⟩) (some ⟨r3, 0, none⟩) s.pods.length s.pods.length s.mnts.length s.mnts.length s.devs.length s.devs.length s.lks.length s.lks.length s.ph s.co s.ck s.bo s.ba s.lb s.gd s.pr)[o]?) ∧ (∀ o, w'.cell? ⟨w.heap.size + 1 + 1, o, none⟩ = (#[.int .i64 r.k, .int .i64 r.a, .int .i64 r.b])[o]?) ∧ Below w8.heap.size w8 w')
            (first | (with_reducible exact S2) | (with_reducible exact S1) | (with_reducible exact S0) | (refine ⟨fun o => (Below.cell (B := w8.heap.size) (w := w8) ?_ hw0).trans (S0.1 o), fun o => (Below.cell (B := w8.heap.size) (w := w8) ?_ hw1).trans (S0.2.1 o), fun o => (Below.cell (B := w8.heap.size) (w := w8) ?_ hw2).trans (S0.2.2.1 o), ?_⟩ <;> (repeat (first | (with_reducible exact K2) | (with_reducible exact K1) | (with_reducible exact Below.refl _ _) | (with_reducible refine Below.drew ?_) | (with_reducible refine (fun h => Below.alloc h h.size _) ?_) | (with_reducible refine Below.setCell ?_ (by first | exact Z.lt.1 | exact Nat.le_refl _) _)))))
            (first
            | (go_at_call 11
               have hq := K1
               clear hq
               first
               | (with_reducible refine calls_at (fun W' => Below w1_.heap.size w1_ W' ∧ BoxS W' w8.heap.size w1_.heap.size (stC none none none none 0 0 0 0 0 0 0 0 0 false 0 0 0 0 0 0).toList) ⟨(Below.refl _ _).alloc (Nat.le_refl _) (.cells (stC none none none none 0 0 0 0 0 0 0 0 0 false 0 0 0 0 0 0) 40), BoxS.new rfl K1.size rfl⟩ ?_
                  rintro W' ⟨hW, Z⟩)
               | (with_reducible refine calls_at (fun W' => Below w1_.heap.size w1_ W' ∧ BoxS W' w8.heap.size w1_.heap.size (stC none none none none 0 0 0 0 0 0 0 0 0 false 0 0 0 0 0 0).toList) ⟨((Below.refl _ _).alloc (Nat.le_refl _) (.cells (stC none none none none 0 0 0 0 0 0 0 0 0 false 0 0 0 0 0 0) 40)).drew, BoxS.go (BoxS.new rfl K1.size rfl) (Below.refl _ _).drew⟩ ?_
                  rintro W' ⟨hW, Z⟩)
               | (with_reducible refine calls_at (fun W' => Below w1_.heap.size w1_ W') (Below.refl _ _) ?_
                  intro W' hW
                  try replace Z := Z.go hW)
               | (with_reducible refine calls_at (fun W' => Below w1_.heap.size w1_ W') (Below.refl _ _).drew ?_
                  intro W' hW
                  try replace Z := Z.go hW)
               have hall := implRec_any _ _ d s r W' (P.out.go (K1.trans (hW.mono K1.size))) (Q.out.go (K1.trans (hW.mono K1.size))) (HN.out.go (T.A.K.trans ((K1.trans (hW.mono K1.size)).mono T.A.K.size)))
               rw [HXB.out] at hall
               refine hall.mono ?_
               clear hall
               rintro e w2_ ⟨v4_, h4_, O4_, hb⟩
               dsimp only at h4_ O4_
               subst h4_
               have K2 : Below w8.heap.size w8 w2_ := K1.trans ((hW.trans (hb.mono hW.size)).mono K1.size)
               try replace Z := Z.go hb
               have S2 := And.intro (U.step K2).C (And.intro (V1.step K2).C (And.intro (T.step K2).O.C K2))
               try have zC := Z.C
               try have zF := Z.frozen
               replace O4_ := O4_.base (Nat.le_trans K1.size hW.size)
               have HO4 := Lib.hid O4_
               obtain ⟨u0, u1, u2, u3, rfl, y0, y1, y2, y3⟩ := O4_.it
               obtain ⟨J0, j0, rfl, -⟩ := open_rowR y0
               obtain ⟨J1, j1, rfl, -⟩ := open_rowR y1
               obtain ⟨J2, j2, rfl, -⟩ := open_rowR y2
               obtain ⟨J3, j3, rfl, -⟩ := open_rowR y3
               clear y0 y1 y2 y3 O4_ hb hW)
            | (go_at_call 10
               first
               | (with_reducible refine calls_at (fun W' => Below w8.heap.size w8 W' ∧ BoxS W' w8.heap.size w8.heap.size (stC none none none none 0 0 0 0 0 0 0 0 0 false 0 0 0 0 0 0).toList) ⟨(Below.refl _ _).alloc (Nat.le_refl _) (.cells (stC none none none none 0 0 0 0 0 0 0 0 0 false 0 0 0 0 0 0) 40), BoxS.new rfl K0.size rfl⟩ ?_
                  rintro W' ⟨hW, Z⟩)
               | (with_reducible refine calls_at (fun W' => Below w8.heap.size w8 W' ∧ BoxS W' w8.heap.size w8.heap.size (stC none none none none 0 0 0 0 0 0 0 0 0 false 0 0 0 0 0 0).toList) ⟨((Below.refl _ _).alloc (Nat.le_refl _) (.cells (stC none none none none 0 0 0 0 0 0 0 0 0 false 0 0 0 0 0 0) 40)).drew, BoxS.go (BoxS.new rfl K0.size rfl) (Below.refl _ _).drew⟩ ?_
                  rintro W' ⟨hW, Z⟩)
               | (with_reducible refine calls_at (fun W' => Below w8.heap.size w8 W') (Below.refl _ _) ?_
                  intro W' hW
                  try replace Z := Z.go hW)
               | (with_reducible refine calls_at (fun W' => Below w8.heap.size w8 W') (Below.refl _ _).drew ?_
                  intro W' hW
                  try replace Z := Z.go hW)
               refine (toRec_any r.k r.a r.b W').mono ?_
               rintro e w1_ ⟨rfl, hb⟩
               have K1 : Below w8.heap.size w8 w1_ := K0.trans ((hW.trans (hb.mono hW.size)).mono K0.size)
               try replace Z := Z.go hb
               have S1 := And.intro (U.step K1).C (And.intro (V1.step K1).C (And.intro (T.step K1).O.C K1))
               clear hb hW))
          all_goals (go_wp2_with fail; go_meet)
          all_goals first
            | (have hz := Z.lt.1
               apply Exists.intro
               apply Exists.intro
               refine ⟨rfl, rfl, K2.trans ((keeps_put12 ..).below K2.size fun b hb e => by subst e; omega), Z.put .., HO4.out.keeps (keeps_put12 ..) fun b hb e => HO4.out.apart Z (by rw [← e]; exact hb)⟩)
            | (apply Exists.intro
               apply Exists.intro
               exact ⟨rfl, rfl, K2.alloc K2.size _, BoxS.new rfl K2.size rfl, HO4.out.below ((Below.refl _ _).alloc (Nat.le_refl _) _)⟩)
        case rest =>
          obtain ⟨κ, cs, rfl, rfl, hb, BX, O⟩ := hcut
          have hκ := BX.lt.1
          have Z1 := RowsR.of O BX hb.size
          obtain ⟨u0, u1, u2, u3, hv, y0, y1, y2, y3⟩ := O.it
          injection hv with hv
          subst hv
          obtain ⟨J0, j0, rfl, -⟩ := open_rowR y0
          obtain ⟨J1, j1, rfl, -⟩ := open_rowR y1
          obtain ⟨J2, j2, rfl, -⟩ := open_rowR y2
          obtain ⟨J3, j3, rfl, -⟩ := open_rowR y3
          clear y0 y1 y2 y3 O S0 K0 hw0 hw1 hw2
          replace T := T.step hb
          replace V0 := V0.step hb
          replace Z0 := Z0.go hb
          replace N := N.below hb
          replace P := Lib.hid (P.out.go hb)
          replace U := U.step hb
          replace Y := Y.go hb
          replace Q := Lib.hid (Q.out.go hb)
          replace V1 := V1.step hb
          clear hb
          have W1 := BX.own T.A.K
          clear BX
          generalize wc.heap.size = ε' at Z1
          generalize w8.heap.size = ε at V1l hκ Z1
          have hW := W1.C
          have hC := V0.C
          go_wp2_with fail
          clear hC hW
          refine (eqState_same _ _ x _ (Z1.is FX.out) (Z0.is FX.out)).mono ?_
          rintro e w12 ⟨rfl, hb⟩
          replace T := T.step hb
          replace V0 := V0.step hb
          replace Z0 := Z0.go hb
          replace N := N.below hb
          replace P := Lib.hid (P.out.go hb)
          replace U := U.step hb
          replace Y := Y.go hb
          replace Q := Lib.hid (Q.out.go hb)
          replace V1 := V1.step hb
          replace Z1 := Z1.go hb
          replace W1 := W1.step hb
          clear hb
          go_wp2_with fail
          -- the plan is as it was
          have S0 : (∀ o, w12.cell? ⟨w.heap.size, o, none⟩ = (planC A0 A1 A2 A3 d.n0 c0 d.n1 c1 d.n2 c2 d.n3 c3 d.l d.p d.t)[o]?) ∧ (∀ o, w12.cell? ⟨γ, o, none⟩ = (planC (some ⟨a0, 0, none⟩) (some ⟨a1, 0, none⟩) (some ⟨a2, 0, none⟩) (some ⟨a3, 0, none⟩) d.n0 d.n0 d.n1 d.n1 d.n2 d.n2 d.n3 d.n3 d.l d.p d.t)[o]?) ∧ Below w12.heap.size w12 w12 := ⟨T.A.C, U.C, Below.refl _ _⟩
          go_region_held3 (fun w' => (∀ o, w'.cell? ⟨w.heap.size, o, none⟩ = (planC A0 A1 A2 A3 d.n0 c0 d.n1 c1 d.n2 c2 d.n3 c3 d.l d.p d.t)[o]?) ∧ (∀ o, w'.cell? ⟨γ, o, none⟩ = (planC (some ⟨a0, 0, none⟩) (some ⟨a1, 0, none⟩) (some ⟨a2, 0, none⟩) (some ⟨a3, 0, none⟩) d.n0 d.n0 d.n1 d.n1 d.n2 d.n2 d.n3 d.n3 d.l d.p d.t)[o]?) ∧ Below w12.heap.size w12 w')
            (first | exact S0 | exact S1 | exact S2 | (exact ⟨S0.1, S0.2.1, S0.2.2.drew⟩))
            (first
              | (go_at_call 13
                 have hq := S1
                 clear hq
                 refine (eqPlan_same _ _ d _ ((P.out.below K1 (Nat.le_refl _)).more K1.size) P1.out).mono ?_
                 rintro e w2a ⟨rfl, hb⟩
                 have K2 : Below w12.heap.size w12 w2a := K1.trans (hb.mono K1.size)
                 have S2 := And.intro (T.step K2).A.C (And.intro (U.step K2).C K2))
              | (go_at_call 8
                 have K0 : Below w12.heap.size w12 w12.drew := (Below.refl _ _).drew
                 refine (toPlan_any _ d _ ((H.out.below (T.step K0).A.K (Nat.le_refl _)).more (T.step K0).A.K.size) q0.out q1.out q2.out q3.out).mono ?_
                 rintro e w1a ⟨z0, z1, z2, z3, rfl, N1, hb⟩
                 have P1 := Lib.hid (N1.is B0.out B1.out B2.out B3.out)
                 have K1 : Below w12.heap.size w12 w1a := K0.trans hb
                 clear hb
                 have S1 := And.intro (T.step K1).A.C (And.intro (U.step K1).C K1)))
          clear S0 S1 S2 K0 K1 hb
          have hb := K2
          clear K2
          clear N1 P1
          replace T := T.step hb
          replace V0 := V0.step hb
          replace Z0 := Z0.go hb
          replace N := N.below hb
          replace P := Lib.hid (P.out.go hb)
          replace U := U.step hb
          replace Y := Y.go hb
          replace Q := Lib.hid (Q.out.go hb)
          replace V1 := V1.step hb
          replace Z1 := Z1.go hb
          replace W1 := W1.step hb
          clear hb
          rename_i hHeld
          clear hHeld
          go_wp2_with fail
          -- the state is as it was
          have S0 : (∀ o, w2a.cell? ⟨w.heap.size + 1, o, none⟩ = (stC E0 E1 E2 E3 s.pods.length k0 s.mnts.length k1 s.devs.length k2 s.lks.length k3 s.ph s.co s.ck s.bo s.ba s.lb s.gd s.pr)[o]?) ∧ (∀ o, w2a.cell? ⟨ζ, o, none⟩ = (stC (some ⟨r0, 0, none⟩) (some ⟨r1, 0, none⟩) (some ⟨r2, 0, none⟩) (some ⟨r3, 0, none⟩) s.pods.length s.pods.length s.mnts.length s.mnts.length s.devs.length s.devs.length s.lks.length s.lks.length s.ph s.co s.ck s.bo s.ba s.lb s.gd s.pr)[o]?) ∧ Below w2a.heap.size w2a w2a := ⟨T.Z.C, V1.C, Below.refl _ _⟩
          go_region_held3 (fun w' => (∀ o, w'.cell? ⟨w.heap.size + 1, o, none⟩ = (stC E0 E1 E2 E3 s.pods.length k0 s.mnts.length k1 s.devs.length k2 s.lks.length k3 s.ph s.co s.ck s.bo s.ba s.lb s.gd s.pr)[o]?) ∧ (∀ o, w'.cell? ⟨ζ, o, none⟩ = (stC (some ⟨r0, 0, none⟩) (some ⟨r1, 0, none⟩) (some ⟨r2, 0, none⟩) (some ⟨r3, 0, none⟩) s.pods.length s.pods.length s.mnts.length s.mnts.length s.devs.length s.devs.length s.lks.length s.lks.length s.ph s.co s.ck s.bo s.ba s.lb s.gd s.pr)[o]?) ∧ Below w2a.heap.size w2a w')
            (first | exact S0 | exact S1 | exact S2 | (exact ⟨S0.1, S0.2.1, S0.2.2.drew⟩))
            (first
              | (go_at_call 12
                 have hq := S1
                 clear hq
                 refine (eqState_same _ _ s _ ((Q.out.is.below K1 (Nat.le_refl _)).more K1.size) Q1.out).mono ?_
                 rintro e w2b ⟨rfl, hb⟩
                 have K2 : Below w2a.heap.size w2a w2b := K1.trans (hb.mono K1.size)
                 have S2 := And.intro (T.step K2).Z.C (And.intro (V1.step K2).C K2))
              | (go_at_call 9
                 have K0 : Below w2a.heap.size w2a w2a.drew := (Below.refl _ _).drew
                 refine (toState_any _ s _ ((HS.out.below (T.step K0).A.K (Nat.le_refl _)).more (T.step K0).A.K.size) F.out).mono ?_
                 rintro e w1b ⟨z0, z1, z2, z3, rfl, N1, hb⟩
                 have Q1 := Lib.hid (N1.is F.out)
                 have K1 : Below w2a.heap.size w2a w1b := K0.trans hb
                 clear hb
                 have S1 := And.intro (T.step K1).Z.C (And.intro (V1.step K1).C K1)))
          clear S0 S1 S2 K0 K1 hb
          have hb := K2
          clear K2
          clear N1 Q1
          replace T := T.step hb
          replace V0 := V0.step hb
          replace Z0 := Z0.go hb
          replace N := N.below hb
          replace P := Lib.hid (P.out.go hb)
          replace U := U.step hb
          replace Y := Y.go hb
          replace Q := Lib.hid (Q.out.go hb)
          replace V1 := V1.step hb
          replace Z1 := Z1.go hb
          replace W1 := W1.step hb
          clear hb
          rename_i hHeld
          clear hHeld
          have hU := U.C
          go_wp2_with fail
          -- the arguments are marked
          refine (markPlan_num d a0 a1 a2 a3 _ _ N q0.out q1.out q2.out q3.out).mono ?_
          rintro e w15 ⟨rfl, hk⟩
          clear hU
          clear N P Q U
          replace T := T.keeps hk (by rintro b ⟨hb1, hb2⟩; omega)
          replace V0 := V0.keeps hk (by rintro b ⟨hb1, hb2⟩; omega) (by rintro ⟨hb1, hb2⟩; omega)
          replace Z0 := Z0.keeps hk (by rintro b p1 p2 ⟨hb1, hb2⟩; omega)
          replace Y := Y.keeps hk (by rintro b p1 p2 ⟨hb1, hb2⟩; omega)
          replace V1 := V1.keeps hk (by rintro b ⟨hb1, hb2⟩; omega) (by rintro ⟨hb1, hb2⟩; omega)
          replace Z1 := Z1.keeps hk (by rintro b ⟨p1, p2, p3⟩ ⟨hb1, hb2⟩; omega)
          replace W1 := W1.keeps hk (by rintro b ⟨hb1, hb2⟩; omega) (by rintro ⟨hb1, hb2⟩; omega)
          clear hk
          have p0 : (0 : Int) ≤ 1 + 4 * d.n0 + d.n1 + 2 * d.n2 + d.n3 := by omega
          have p1 := PS.out
          generalize (1 + 4 * d.n0 + d.n1 + 2 * d.n2 + d.n3 : Int) = kk at p0 p1 ⊢
          have hV := V1.C
          go_wp2_with fail
          refine (markIn_any _ s _ _ kk _ Y F.out p0 (by have := TS.out; omega)).mono ?_
          rintro e w16 ⟨rfl, -, hk⟩
          clear hV
          clear Y V1
          replace T := T.keeps hk (by rintro b ⟨hb1, hb2⟩; omega)
          replace V0 := V0.keeps hk (by rintro b ⟨hb1, hb2⟩; omega) (by rintro ⟨hb1, hb2⟩; omega)
          replace Z0 := Z0.keeps hk (by rintro b p1 p2 ⟨hb1, hb2⟩; omega)
          replace Z1 := Z1.keeps hk (by rintro b ⟨p1, p2, p3⟩ ⟨hb1, hb2⟩; omega)
          replace W1 := W1.keeps hk (by rintro b ⟨hb1, hb2⟩; omega) (by rintro ⟨hb1, hb2⟩; omega)
          clear hk
          have p2 : (0 : Int) ≤ kk + totS s := by omega
          have p3 : kk + totS s ≤ 6291457 := by have := TS.out; omega
          generalize (kk + totS s : Int) = kq at p2 p3 ⊢
          clear p0 p1
          have p4 : ¬ (kq < 0) := by omega
          have p5 : decide (kq < 0) = false := by simp [p4]
          clear p2 p3
          have hW := W1.C
          have hC := V0.C
          go_wp2_with fail
          refine (eqState_same _ _ x _ (Z1.is FX.out) (Z0.is FX.out)).mono ?_
          rintro e w18 ⟨rfl, hb⟩
          clear p4 p5 hW hC
          replace T := T.step hb
          replace V0 := V0.step hb
          replace Z0 := Z0.go hb
          replace Z1 := Z1.go hb
          replace W1 := W1.step hb
          clear hb
          have hW := W1.C
          go_wp2_with fail
          -- the answer is marked
          refine (markR_any _ x _ 1 _ Z1 FX.out (by omega) (by have := TX.out; omega)).mono ?_
          rintro e w19 ⟨rfl, Zm, hk⟩
          clear hW
          clear Z1
          replace T := T.keeps hk (by rintro b ⟨hb1, hb2, hb3⟩; omega)
          replace V0 := V0.keeps hk (by rintro b ⟨hb1, hb2, hb3⟩; omega) (by rintro ⟨hb1, hb2, hb3⟩; omega)
          replace Z0 := Z0.keeps hk (by rintro b p1 p2 ⟨hb1, hb2, hb3⟩; omega)
          replace W1 := W1.keeps hk (by rintro b ⟨hb1, hb2, hb3⟩; omega) (by rintro ⟨hb1, hb2, hb3⟩; omega)
          clear hk
          have Z1 := Zm
          clear Zm
          have hW := W1.C
          go_wp2_with fail
          refine (heldR_any _ x _ 1 _ Z1 FX.out (by omega) (by have := TX.out; omega)).mono ?_
          rintro e w20 ⟨rfl, hb⟩
          clear hW
          replace T := T.step hb
          replace V0 := V0.step hb
          replace Z0 := Z0.go hb
          replace W1 := W1.step hb
          replace Z1 := Z1.go hb
          clear hb
          have nn : ¬ ((1 : Int) + (totS x : Int) < 0) := by omega
          -- once more, of other copies
          go_upto_region 31 with fail
          have K0 : Below w20.heap.size w20 w20 := Below.refl _ _
          have S0 : (∀ o, w20.cell? ⟨w.heap.size, o, none⟩ = (planC A0 A1 A2 A3 d.n0 c0 d.n1 c1 d.n2 c2 d.n3 c3 d.l d.p d.t)[o]?) ∧ (∀ o, w20.cell? ⟨w.heap.size + 1, o, none⟩ = (stC E0 E1 E2 E3 s.pods.length k0 s.mnts.length k1 s.devs.length k2 s.lks.length k3 s.ph s.co s.ck s.bo s.ba s.lb s.gd s.pr)[o]?) ∧ (∀ o, w20.cell? ⟨w.heap.size + 1 + 1, o, none⟩ = (#[.int .i64 r.k, .int .i64 r.a, .int .i64 r.b])[o]?) ∧ Below w20.heap.size w20 w20 := ⟨T.A.C, T.Z.C, T.O.C, K0⟩
          have hw0 : w.heap.size < w20.heap.size := T.A.z
          have hw1 : w.heap.size + 1 < w20.heap.size := T.Z.z
          have hw2 : w.heap.size + 1 + 1 < w20.heap.size := T.O.z
          go_cut [17, 18] from 100 to 109 (fun s8 s9 wx => ∃ (g : Nat) (cs : Array Value), s8 = .pointer (some ⟨g, 0, none⟩) ∧ s9 = .bool b ∧ Below w20.heap.size w20 wx ∧ BoxS wx w20.heap.size g cs.toList ∧ OwnSt wx w20.heap.size (.agg cs) x)
          case first =>
            go_region_held3 (fun w' => (∀ o, w'.cell? ⟨w.heap.size, o, none⟩ = (planC A0 A1 A2 A3 d.n0 c0 d.n1 c1 d.n2 c2 d.n3 c3 d.l d.p d.t)[o]?) ∧ (∀ o, w'.cell? ⟨w.heap.size + 1, o, none⟩ = (stC E0 E1 E2 E3 s.pods.length k0 s.mnts.length k1 s.devs.length k2 s.lks.length k3 s.ph s.co s.ck s.bo s.ba s.lb s.gd s.pr)[o]?) ∧ (∀ o, w'.cell? ⟨w.heap.size + 1 + 1, o, none⟩ = (#[.int .i64 r.k, .int .i64 r.a, .int .i64 r.b])[o]?) ∧ Below w20.heap.size w20 w')
              (first | (with_reducible exact S4) | (with_reducible exact S3) | (with_reducible exact S2) | (with_reducible exact S1) | (with_reducible exact S0) | (refine ⟨fun o => (Below.cell (B := w20.heap.size) (w := w20) ?_ hw0).trans (S0.1 o), fun o => (Below.cell (B := w20.heap.size) (w := w20) ?_ hw1).trans (S0.2.1 o), fun o => (Below.cell (B := w20.heap.size) (w := w20) ?_ hw2).trans (S0.2.2.1 o), ?_⟩ <;> (repeat (first | (with_reducible exact K4) | (with_reducible exact K3) | (with_reducible exact K2) | (with_reducible exact K1) | (with_reducible exact Below.refl _ _) | (with_reducible refine Below.drew ?_) | (with_reducible refine (fun h => Below.alloc h h.size _) ?_) | (with_reducible refine Below.setCell ?_ (by first | exact Z.lt.1 | exact Nat.le_refl _) _)))))
              (first
              | (go_at_call 11
                 have hq := K3
                 clear hq
                 first
                 | (with_reducible refine calls_at (fun W' => Below w3_.heap.size w3_ W' ∧ BoxS W' w20.heap.size w3_.heap.size (stC none none none none 0 0 0 0 0 0 0 0 0 false 0 0 0 0 0 0).toList) ⟨(Below.refl _ _).alloc (Nat.le_refl _) (.cells (stC none none none none 0 0 0 0 0 0 0 0 0 false 0 0 0 0 0 0) 40), BoxS.new rfl K3.size rfl⟩ ?_
                    rintro W' ⟨hW, Z⟩)
                 | (with_reducible refine calls_at (fun W' => Below w3_.heap.size w3_ W' ∧ BoxS W' w20.heap.size w3_.heap.size (stC none none none none 0 0 0 0 0 0 0 0 0 false 0 0 0 0 0 0).toList) ⟨((Below.refl _ _).alloc (Nat.le_refl _) (.cells (stC none none none none 0 0 0 0 0 0 0 0 0 false 0 0 0 0 0 0) 40)).drew, BoxS.go (BoxS.new rfl K3.size rfl) (Below.refl _ _).drew⟩ ?_
                    rintro W' ⟨hW, Z⟩)
                 | (with_reducible refine calls_at (fun W' => Below w3_.heap.size w3_ W') (Below.refl _ _) ?_
                    intro W' hW
                    try replace Z := Z.go hW)
                 | (with_reducible refine calls_at (fun W' => Below w3_.heap.size w3_ W') (Below.refl _ _).drew ?_
                    intro W' hW
                    try replace Z := Z.go hW)
                 have hall := implRec_any _ _ d s r W' (P1.out.go (((K12.trans (K23.mono K12.size)).trans (hW.mono (K12.trans (K23.mono K12.size)).size)))) (Q2.out.go (K23.trans (hW.mono K23.size))) (HN.out.go (T.A.K.trans ((K3.trans (hW.mono K3.size)).mono T.A.K.size)))
                 rw [HXB.out] at hall
                 refine hall.mono ?_
                 clear hall
                 rintro e w4_ ⟨v4_, h4_, O4_, hb⟩
                 dsimp only at h4_ O4_
                 subst h4_
                 have K4 : Below w20.heap.size w20 w4_ := K3.trans ((hW.trans (hb.mono hW.size)).mono K3.size)
                 try replace Z := Z.go hb
                 have S4 := And.intro (T.step K4).A.C (And.intro (T.step K4).Z.C (And.intro (T.step K4).O.C K4))
                 try have zC := Z.C
                 try have zF := Z.frozen
                 replace O4_ := O4_.base (Nat.le_trans K3.size hW.size)
                 have HO4 := Lib.hid O4_
                 obtain ⟨u0, u1, u2, u3, rfl, y0, y1, y2, y3⟩ := O4_.it
                 obtain ⟨D0, h0, rfl, -⟩ := open_rowR y0
                 obtain ⟨D1, h1, rfl, -⟩ := open_rowR y1
                 obtain ⟨D2, h2, rfl, -⟩ := open_rowR y2
                 obtain ⟨D3, h3, rfl, -⟩ := open_rowR y3
                 clear y0 y1 y2 y3 O4_ hb hW)
              | (go_at_call 10
                 have hq := K2
                 clear hq
                 first
                 | (with_reducible refine calls_at (fun W' => Below w2_.heap.size w2_ W' ∧ BoxS W' w20.heap.size w2_.heap.size (stC none none none none 0 0 0 0 0 0 0 0 0 false 0 0 0 0 0 0).toList) ⟨(Below.refl _ _).alloc (Nat.le_refl _) (.cells (stC none none none none 0 0 0 0 0 0 0 0 0 false 0 0 0 0 0 0) 40), BoxS.new rfl K2.size rfl⟩ ?_
                    rintro W' ⟨hW, Z⟩)
                 | (with_reducible refine calls_at (fun W' => Below w2_.heap.size w2_ W' ∧ BoxS W' w20.heap.size w2_.heap.size (stC none none none none 0 0 0 0 0 0 0 0 0 false 0 0 0 0 0 0).toList) ⟨((Below.refl _ _).alloc (Nat.le_refl _) (.cells (stC none none none none 0 0 0 0 0 0 0 0 0 false 0 0 0 0 0 0) 40)).drew, BoxS.go (BoxS.new rfl K2.size rfl) (Below.refl _ _).drew⟩ ?_
                    rintro W' ⟨hW, Z⟩)
                 | (with_reducible refine calls_at (fun W' => Below w2_.heap.size w2_ W') (Below.refl _ _) ?_
                    intro W' hW
                    try replace Z := Z.go hW)
                 | (with_reducible refine calls_at (fun W' => Below w2_.heap.size w2_ W') (Below.refl _ _).drew ?_
                    intro W' hW
                    try replace Z := Z.go hW)
                 refine (toRec_any r.k r.a r.b W').mono ?_
                 rintro e w3_ ⟨rfl, hb⟩
                 have K23 : Below w2_.heap.size w2_ w3_ := hW.trans (hb.mono hW.size)
                 have K3 : Below w20.heap.size w20 w3_ := K2.trans ((hW.trans (hb.mono hW.size)).mono K2.size)
                 try replace Z := Z.go hb
                 have S3 := And.intro (T.step K3).A.C (And.intro (T.step K3).Z.C (And.intro (T.step K3).O.C K3))
                 clear hb hW)
              | (go_at_call 9
                 have hq := K1
                 clear hq
                 first
                 | (with_reducible refine calls_at (fun W' => Below w1_.heap.size w1_ W' ∧ BoxS W' w20.heap.size w1_.heap.size (stC none none none none 0 0 0 0 0 0 0 0 0 false 0 0 0 0 0 0).toList) ⟨(Below.refl _ _).alloc (Nat.le_refl _) (.cells (stC none none none none 0 0 0 0 0 0 0 0 0 false 0 0 0 0 0 0) 40), BoxS.new rfl K1.size rfl⟩ ?_
                    rintro W' ⟨hW, Z⟩)
                 | (with_reducible refine calls_at (fun W' => Below w1_.heap.size w1_ W' ∧ BoxS W' w20.heap.size w1_.heap.size (stC none none none none 0 0 0 0 0 0 0 0 0 false 0 0 0 0 0 0).toList) ⟨((Below.refl _ _).alloc (Nat.le_refl _) (.cells (stC none none none none 0 0 0 0 0 0 0 0 0 false 0 0 0 0 0 0) 40)).drew, BoxS.go (BoxS.new rfl K1.size rfl) (Below.refl _ _).drew⟩ ?_
                    rintro W' ⟨hW, Z⟩)
                 | (with_reducible refine calls_at (fun W' => Below w1_.heap.size w1_ W') (Below.refl _ _) ?_
                    intro W' hW
                    try replace Z := Z.go hW)
                 | (with_reducible refine calls_at (fun W' => Below w1_.heap.size w1_ W') (Below.refl _ _).drew ?_
                    intro W' hW
                    try replace Z := Z.go hW)
                 refine (toState_any _ s W' ((HS.out.below (T.step (K1.trans (hW.mono K1.size))).A.K (Nat.le_refl _)).more (T.step (K1.trans (hW.mono K1.size))).A.K.size) F.out).mono ?_
                 rintro e w2_ ⟨q0_, q1_, q2_, q3_, rfl, N2, hb⟩
                 have Q2 := Lib.hid (N2.isR F.out)
                 have K12 : Below w1_.heap.size w1_ w2_ := hW.trans (hb.mono hW.size)
                 have K2 : Below w20.heap.size w20 w2_ := K1.trans ((hW.trans (hb.mono hW.size)).mono K1.size)
                 try replace Z := Z.go hb
                 have S2 := And.intro (T.step K2).A.C (And.intro (T.step K2).Z.C (And.intro (T.step K2).O.C K2))
                 clear hb hW N2)
              | (go_at_call 8
                 first
                 | (with_reducible refine calls_at (fun W' => Below w20.heap.size w20 W' ∧ BoxS W' w20.heap.size w20.heap.size (stC none none none none 0 0 0 0 0 0 0 0 0 false 0 0 0 0 0 0).toList) ⟨(Below.refl _ _).alloc (Nat.le_refl _) (.cells (stC none none none none 0 0 0 0 0 0 0 0 0 false 0 0 0 0 0 0) 40), BoxS.new rfl K0.size rfl⟩ ?_
                    rintro W' ⟨hW, Z⟩)
                 | (with_reducible refine calls_at (fun W' => Below w20.heap.size w20 W' ∧ BoxS W' w20.heap.size w20.heap.size (stC none none none none 0 0 0 0 0 0 0 0 0 false 0 0 0 0 0 0).toList) ⟨((Below.refl _ _).alloc (Nat.le_refl _) (.cells (stC none none none none 0 0 0 0 0 0 0 0 0 false 0 0 0 0 0 0) 40)).drew, BoxS.go (BoxS.new rfl K0.size rfl) (Below.refl _ _).drew⟩ ?_
                    rintro W' ⟨hW, Z⟩)
                 | (with_reducible refine calls_at (fun W' => Below w20.heap.size w20 W') (Below.refl _ _) ?_
                    intro W' hW
                    try replace Z := Z.go hW)
                 | (with_reducible refine calls_at (fun W' => Below w20.heap.size w20 W') (Below.refl _ _).drew ?_
                    intro W' hW
                    try replace Z := Z.go hW)
                 refine (toPlan_any _ d W' ((H.out.below (T.step hW).A.K (Nat.le_refl _)).more (T.step hW).A.K.size) q0.out q1.out q2.out q3.out).mono ?_
                 rintro e w1_ ⟨p0_, p1_, p2_, p3_, rfl, N1, hb⟩
                 have P1 := Lib.hid (N1.is B0.out B1.out B2.out B3.out)
                 have K1 : Below w20.heap.size w20 w1_ := K0.trans ((hW.trans (hb.mono hW.size)).mono K0.size)
                 try replace Z := Z.go hb
                 have S1 := And.intro (T.step K1).A.C (And.intro (T.step K1).Z.C (And.intro (T.step K1).O.C K1))
                 clear hb hW N1))
            all_goals (go_wp2_with fail; go_meet)
            all_goals first
              | (have hz := Z.lt.1
                 apply Exists.intro
                 apply Exists.intro
                 refine ⟨rfl, rfl, K4.trans ((keeps_put12 ..).below K4.size fun b hb e => by subst e; omega), Z.put .., HO4.out.keeps (keeps_put12 ..) fun b hb e => HO4.out.apart Z (by rw [← e]; exact hb)⟩)
              | (apply Exists.intro
                 apply Exists.intro
                 exact ⟨rfl, rfl, K4.alloc K4.size _, BoxS.new rfl K4.size rfl, HO4.out.below ((Below.refl _ _).alloc (Nat.le_refl _) _)⟩)
          case rest =>
            obtain ⟨g5, cs, rfl, rfl, hb, BX, O⟩ := hcut
            have Z2 := RowsIn.of O hb.size
            obtain ⟨u0, u1, u2, u3, hv, y0, y1, y2, y3⟩ := O.it
            injection hv with hv
            subst hv
            obtain ⟨D0, h0, rfl, -⟩ := open_rowR y0
            obtain ⟨D1, h1, rfl, -⟩ := open_rowR y1
            obtain ⟨D2, h2, rfl, -⟩ := open_rowR y2
            obtain ⟨D3, h3, rfl, -⟩ := open_rowR y3
            clear y0 y1 y2 y3 O S0 K0 hw0 hw1 hw2
            replace T := T.step hb
            replace V0 := V0.step hb
            replace Z0 := Z0.go hb
            replace W1 := W1.step hb
            replace Z1 := Z1.go hb
            clear hb
            have V2 := BX.own T.A.K
            clear BX
            have hC := V0.C
            have hV := V2.C
            go_wp2_with fail
            refine (eqState_same _ _ x _ (Z2.is FX.out) (Z0.is FX.out)).mono ?_
            rintro e w21 ⟨rfl, hb⟩
            clear hC hV V2 Z2
            replace T := T.step hb
            replace V0 := V0.step hb
            replace Z0 := Z0.go hb
            replace W1 := W1.step hb
            replace Z1 := Z1.go hb
            clear hb
            have hW := W1.C
            go_wp2_with fail
            refine (heldR_any _ x _ 1 _ Z1 FX.out (by omega) (by have := TX.out; omega)).mono ?_
            rintro e w22 ⟨rfl, hb⟩
            clear hW
            replace T := T.step hb
            replace V0 := V0.step hb
            replace Z0 := Z0.go hb
            replace W1 := W1.step hb
            replace Z1 := Z1.go hb
            clear hb
            go_wp2_with fail
            go_ret
            exact ⟨rfl, T.A.K⟩
    · have e0 : szS left s = -1 := if_neg hsz2
      rw [e0]
      clear e0
      go_wp2_with fail
      go_ret
      exact ⟨rfl, T.A.K⟩
  · have e0 : szP d = -1 := if_neg hsz
    rw [e0]
    clear e0
    go_wp2_with fail
    go_ret
    exact ⟨rfl, T.A.K⟩
end Go.Proofs.YtlfppcppjbfieaaGreatDoor
/- A6 -/
set_option linter.unusedVariables false
namespace Go.Proofs.YtlfppcppjbfieaaGreatDoor
open Go.ChangeShapes Go.WideShapes Go.ChangeAt Go.RowKit Go.Deep

/-- Every field is a plain int64. -/
def intFields (P : Program) (fs : Array Field) : Bool := (List.range fs.size).all fun j => match fs[j]? with
  | some f => (match P.underlying f.type with | some (.int .i64) => true | _ => false)
  | none => false
theorem intFields_at {P : Program} {fs : Array Field} (h : intFields P fs = true) {j : Nat} {f : Field} (hj : fs[j]? = some f) : P.underlying f.type = some (.int .i64) := by
  have hlt : j < fs.size := (Array.getElem?_eq_some_iff.1 hj).1
  have := List.all_eq_true.1 h j (List.mem_range.2 hlt)
  simp only [hj] at this
  split at this
  · assumption
  · cases this

section
variable {H : Type} {enc : TypeId × Value → H} {P : Program} {w : World} {spare : Nat → Bool} {held : Bool}
theorem sl_of_cells {a : Addr} {n k : Nat} (hk : 0 < k) (h : ∀ i, i < n → ∀ j, j < k → ∃ z, w.cell? ((a.add (i * k)).add j) = some (.int .i64 z)) : ∃ X, Sl w w.heap.size k (some a) n X := by
  rcases Nat.eq_zero_or_pos n with hn | hn
  · exact ⟨fun _ => 0, fun h0 => absurd h0 (by omega)⟩
  have hsp : a.spot = none := by
    obtain ⟨z, hz⟩ := h 0 hn 0 hk
    simpa [Addr.add] using World.cell?_spot hz
  obtain ⟨b, off, sp⟩ := a
  subst hsp
  have h' : ∀ q, q < n * k → ∃ z : Int, w.cell? ⟨b, off + q, none⟩ = some (.int .i64 z) := fun q hq => by
    obtain ⟨z, hz⟩ := h (q / k) ((Nat.div_lt_iff_lt_mul hk).2 hq) (q % k) (Nat.mod_lt _ hk)
    rw [add_plain, add_plain, Nat.add_assoc, Nat.mul_comm, Nat.div_add_mod] at hz
    exact ⟨z, hz⟩
  obtain ⟨X, hX⟩ := choose_lt h'
  exact ⟨X, fun _ => ⟨b, off, rfl, block_lt_of_cell (hX 0 (Nat.mul_pos hn hk)), hX⟩⟩

/-- A slice of structs of plain int64 fields. -/
theorem sl_structs {t e : TypeId} {fs : Array Field} {fuel k : Nat} {v : Value} {x : DataW H × List MemPlace} (ht : P.underlying t = some (.slice e)) (he : P.underlying e = some (.struct fs))
    (hone : oneCellFields P fs = true) (hint : intFields P fs = true) (hC : P.cellsOf e = k) (hk : fs.size = k) (hk0 : 0 < k) (h : DataW.trod enc P w 0 spare held fuel t [v] = some x) :
    ∃ A n c X, v = .slice A n c ∧ n ≤ maxLen ∧ Sl w w.heap.size k A n X := by
  rcases open_slice ht h with ⟨h1, _⟩ | ⟨a, len, cap, m, n, D, Pl, hcs, hb, hl, hm, hmm, hx, hi⟩
  · injection h1 with h1 _
    exact ⟨none, 0, 0, fun _ => 0, h1, Nat.zero_le _, fun h0 => absurd h0 (by omega)⟩
  · injection hcs with hv _
    have hlm : len ≤ m := by rw [hmm]; split <;> omega
    obtain ⟨X, hX⟩ := sl_of_cells (w := w) (a := a) (n := len) hk0 (fun i hin j hj => by
      obtain ⟨cs', hc, ht'⟩ := hi i (by omega)
      rw [hC] at hc
      obtain ⟨ys, n', _, hy, hlen, hyl, hf⟩ := DataW.trod_struct he ht'
      obtain ⟨_, hcl, hat⟩ := World.cells?_some hc
      obtain ⟨f, hfj⟩ : ∃ f, fs[j]? = some f := ⟨_, Array.getElem?_eq_getElem (by omega)⟩
      obtain ⟨ho, hk1⟩ := hone_of hone j f hfj
      have h1 := hf j f hfj
      rw [ho, hk1] at h1
      have hone' : (cs'.drop j).take 1 = [cs'[j]'(by omega)] := by
        rw [List.drop_eq_getElem_cons (by omega)]
        rfl
      rw [hone', List.getElem?_eq_getElem (by omega)] at h1
      obtain ⟨z, hz, _, _⟩ := DataW.trod_int (intFields_at hint hfj) h1
      injection hz with hz _
      exact ⟨z, by rw [hat j hj, List.getElem?_eq_getElem (by omega), hz]⟩)
    exact ⟨some a, len, cap, X, hv, Nat.le_trans hl hm, hX⟩
/-- A slice of int64. -/
theorem sl_ints {t e : TypeId} {fuel : Nat} {v : Value} {x : DataW H × List MemPlace} (ht : P.underlying t = some (.slice e)) (he : P.underlying e = some (.int .i64)) (hC : P.cellsOf e = 1)
    (h : DataW.trod enc P w 0 spare held fuel t [v] = some x) : ∃ A n c X, v = .slice A n c ∧ n ≤ maxLen ∧ Sl w w.heap.size 1 A n X := by
  rcases open_ints ht he hC h with ⟨h1, _⟩ | ⟨a, len, cap, zs, hcs, hb, hl, hm, hz, hx, hcell, _⟩
  · injection h1 with h1 _
    exact ⟨none, 0, 0, fun _ => 0, h1, Nat.zero_le _, fun h0 => absurd h0 (by omega)⟩
  · injection hcs with hv _
    have hlm : len ≤ zs.length := by rw [hz]; split <;> omega
    obtain ⟨X, hX⟩ := sl_of_cells (w := w) (a := a) (n := len) (k := 1) (by omega) (fun i hin j hj => by
      obtain rfl : j = 0 := by omega
      rw [Nat.mul_one]
      exact ⟨_, hcell i (by omega)⟩)
    exact ⟨some a, len, cap, X, hv, Nat.le_trans hl hm, hX⟩
/-- A struct of one-cell fields: each field's own reading. -/
theorem agg_of_trod {r : Reach} {b0 : Nat} {t : TypeId} {fs : Array Field} {v : Value} {d : DataW H} {p : List MemPlace} (hs : P.underlying t = some (.struct fs)) (hone : oneCellFields P fs = true) (hC : P.cellsOf t = fs.size)
    (hv : Value.okWide P w r b0 t v) (h : DataW.Trod enc P w 0 spare held t v d p) :
    ∃ cs : Array Value, v = .agg cs ∧ ∃ hsz : cs.size = fs.size, ∃ n, ∀ (j : Nat) (f : Field) (hj : fs[j]? = some f), ∃ y, DataW.trod enc P w 0 spare held n f.type [cs[j]'(by rw [hsz]; exact (Array.getElem?_eq_some_iff.1 hj).1)] = some y := by
  obtain ⟨cs, rfl, hsz⟩ := okWide_struct hs hv
  rw [hC] at hsz
  obtain ⟨fuel, hf⟩ := h
  obtain ⟨xs, n, _, hx, _, hlen, hg⟩ := DataW.trod_struct hs hf
  refine ⟨cs, rfl, hsz, n, fun j f hj => ?_⟩
  have hjl : j < fs.size := (Array.getElem?_eq_some_iff.1 hj).1
  obtain ⟨ho, hk⟩ := hone_of hone j f hj
  have h1 := hg j f hj
  rw [ho, hk] at h1
  have hl : (Value.cells (.agg cs)).toList = cs.toList := rfl
  rw [hl] at h1
  have hone' : (cs.toList.drop j).take 1 = [cs[j]'(by omega)] := by
    rw [List.drop_eq_getElem_cons (by simp; omega)]
    simp
  rw [hone', List.getElem?_eq_getElem (by omega)] at h1
  exact ⟨_, h1⟩
end

theorem own_ : ownKnob Tryz.prog.godebug = none := by kernel_rfl
theorem laid_ : laidOutB Tryz.prog = true := by kernel_rfl

theorem at_of_map {fs : Array Field} {ts : Array TypeId} (h : fs.map (·.type) = ts) {j : Nat} {t : TypeId} (hj : ts[j]? = some t) : ∃ f, fs[j]? = some f ∧ f.type = t := by
  rw [← h, Array.getElem?_map] at hj
  cases hf : fs[j]? with
  | none => rw [hf] at hj; cases hj
  | some f => rw [hf] at hj; exact ⟨f, rfl, Option.some.inj hj⟩

end Go.Proofs.YtlfppcppjbfieaaGreatDoor
/- Ph -/
set_option linter.unusedVariables false
namespace Go.Proofs.YtlfppcppjbfieaaGreatDoor
open Go.ChangeShapes Go.WideShapes Go.ChangeAt Go.RowKit Go.Deep

theorem fields_plan : ∃ fs, Tryz.prog.underlying 27 = some (.struct fs) ∧ oneCellFields Tryz.prog fs = true ∧ Tryz.prog.cellsOf 27 = fs.size ∧ fs.size = 7 ∧
    fs.map (·.type) = #[22, 23, 24, 25, 2, 2, 2] :=
  ⟨_, Tryz.underlying27, by kernel_rfl, by kernel_rfl, by kernel_rfl, by kernel_rfl⟩

theorem fs_pod : ∃ fs, Tryz.prog.underlying 113 = some (.struct fs) ∧ oneCellFields Tryz.prog fs = true ∧ intFields Tryz.prog fs = true ∧ fs.size = 4 := ⟨_, Tryz.underlying113, by kernel_rfl, by kernel_rfl, by kernel_rfl⟩
theorem fs_mount : ∃ fs, Tryz.prog.underlying 117 = some (.struct fs) ∧ oneCellFields Tryz.prog fs = true ∧ intFields Tryz.prog fs = true ∧ fs.size = 2 := ⟨_, Tryz.underlying117, by kernel_rfl, by kernel_rfl, by kernel_rfl⟩
theorem fs_device : ∃ fs, Tryz.prog.underlying 121 = some (.struct fs) ∧ oneCellFields Tryz.prog fs = true ∧ intFields Tryz.prog fs = true ∧ fs.size = 1 := ⟨_, Tryz.underlying121, by kernel_rfl, by kernel_rfl, by kernel_rfl⟩

set_option maxRecDepth 100000 in
theorem open_plan {H : Type} {enc : TypeId × Value → H} {W : World} {spare : Nat → Bool} {held : Bool} {r : Reach} {b0 : Nat} {v : Value} {d : DataW H} {p : List MemPlace}
    (hv : Value.okWide Tryz.prog W r b0 27 v) (h : DataW.Trod enc Tryz.prog W 0 spare held 27 v d p) : ∃ D : PlanD, IsPlan W W.heap.size v D := by
  obtain ⟨fs, hu, hone, hC, h7, hts⟩ := fields_plan
  obtain ⟨cs, rfl, hsz, n, hf⟩ := agg_of_trod hu hone hC hv h
  rw [h7] at hsz
  obtain ⟨f0, j0, t0⟩ := at_of_map hts (j := 0) rfl
  obtain ⟨f1, j1, t1⟩ := at_of_map hts (j := 1) rfl
  obtain ⟨f2, j2, t2⟩ := at_of_map hts (j := 2) rfl
  obtain ⟨f3, j3, t3⟩ := at_of_map hts (j := 3) rfl
  obtain ⟨f4, j4, t4⟩ := at_of_map hts (j := 4) rfl
  obtain ⟨f5, j5, t5⟩ := at_of_map hts (j := 5) rfl
  obtain ⟨f6, j6, t6⟩ := at_of_map hts (j := 6) rfl
  obtain ⟨y0, h0⟩ := hf 0 f0 j0
  obtain ⟨y1, h1⟩ := hf 1 f1 j1
  obtain ⟨y2, h2⟩ := hf 2 f2 j2
  obtain ⟨y3, h3⟩ := hf 3 f3 j3
  obtain ⟨y4, h4⟩ := hf 4 f4 j4
  obtain ⟨y5, h5⟩ := hf 5 f5 j5
  obtain ⟨y6, h6⟩ := hf 6 f6 j6
  rw [t0] at h0
  rw [t1] at h1
  rw [t2] at h2
  rw [t3] at h3
  rw [t4] at h4
  rw [t5] at h5
  rw [t6] at h6
  obtain ⟨ps, ps1, ps2, ps3, ps4⟩ := fs_pod
  obtain ⟨ms, ms1, ms2, ms3, ms4⟩ := fs_mount
  obtain ⟨ds, ds1, ds2, ds3, ds4⟩ := fs_device
  obtain ⟨A0, n0, c0, X0, e0, b0, s0⟩ := sl_structs Tryz.underlying22 ps1 ps2 ps3 (by kernel_rfl) ps4 (by omega) h0
  obtain ⟨A1, n1, c1, X1, e1, b1, s1⟩ := sl_ints Tryz.underlying23 Tryz.underlying2 (by kernel_rfl) h1
  obtain ⟨A2, n2, c2, X2, e2, b2, s2⟩ := sl_structs Tryz.underlying24 ms1 ms2 ms3 (by kernel_rfl) ms4 (by omega) h2
  obtain ⟨A3, n3, c3, X3, e3, b3, s3⟩ := sl_structs Tryz.underlying25 ds1 ds2 ds3 (by kernel_rfl) ds4 (by omega) h3
  obtain ⟨l, e4, _, _⟩ := DataW.trod_int Tryz.underlying2 h4
  obtain ⟨p, e5, _, _⟩ := DataW.trod_int Tryz.underlying2 h5
  obtain ⟨t, e6, _, _⟩ := DataW.trod_int Tryz.underlying2 h6
  injection e4 with e4 _
  injection e5 with e5 _
  injection e6 with e6 _
  refine ⟨⟨n0, n1, n2, n3, X0, X1, X2, X3, l, p, t⟩, ⟨A0, A1, A2, A3, c0, c1, c2, c3, ?_, s0, s1, s2, s3⟩, b0, b1, b2, b3⟩
  congr 1
  apply Array.ext (by simp [hsz])
  intro i hi _
  match i, hi with
  | 0, _ => exact e0
  | 1, _ => exact e1
  | 2, _ => exact e2
  | 3, _ => exact e3
  | 4, _ => exact e4
  | 5, _ => exact e5
  | 6, _ => exact e6
  | k + 7, hi => omega

end Go.Proofs.YtlfppcppjbfieaaGreatDoor
/- Ug -/
set_option linter.unusedVariables false
namespace Go.Proofs.YtlfppcppjbfieaaGreatDoor
open Go.ChangeShapes Go.WideShapes Go.ChangeAt Go.RowKit Go.Deep

theorem podCs_map (X : Nat → Int) (n : Nat) {j : Nat} (hj : j < n * 2) : (podCs ((List.range n).map fun i => (X (i * 2), X (i * 2 + 1))))[j]? = some (.int .i64 (X j)) := by
  have hi : j / 2 < ((List.range n).map fun i => (X (i * 2), X (i * 2 + 1))).length := by simp; omega
  obtain ⟨p0, p1⟩ := podCs_at _ hi
  have e : podA ((List.range n).map fun i => (X (i * 2), X (i * 2 + 1))) (j / 2) = (X (j / 2 * 2), X (j / 2 * 2 + 1)) := by simp [podA, List.getD, show j / 2 < n by omega]
  rw [e] at p0 p1
  dsimp only at p0 p1
  rcases (by omega : j = j / 2 * 2 ∨ j = j / 2 * 2 + 1) with h | h
  · rw [← h] at p0; exact p0
  · rw [← h] at p1; exact p1
theorem slv_pods {w : World} {B n : Nat} {A : Option Addr} {X : Nat → Int} (h : Sl w B 2 A n X) : SlV w B 2 A n (podCs ((List.range n).map fun i => (X (i * 2), X (i * 2 + 1)))) := by
  refine ⟨by rw [podCs_len]; simp, fun hn => ?_⟩
  obtain ⟨b, off, rfl, hb, hc⟩ := h hn
  exact ⟨b, off, rfl, hb, fun j hj => by rw [hc j hj, podCs_map X n hj]⟩
theorem slv_ints {w : World} {B n : Nat} {A : Option Addr} {X : Nat → Int} (h : Sl w B 1 A n X) : SlV w B 1 A n (lkCs ((List.range n).map X)) := by
  refine ⟨by rw [lkCs_len]; simp, fun hn => ?_⟩
  obtain ⟨b, off, rfl, hb, hc⟩ := h hn
  exact ⟨b, off, rfl, hb, fun j hj => by rw [hc j hj]; simp [lkCs, show j < n by omega]⟩

section
variable {H : Type} {enc : TypeId × Value → H} {P : Program} {w : World} {spare : Nat → Bool} {held : Bool}
/-- A slice of bools. -/
theorem slv_bools {t e : TypeId} {fuel : Nat} {v : Value} {x : DataW H × List MemPlace} (ht : P.underlying t = some (.slice e)) (he : P.underlying e = some .bool) (hC : P.cellsOf e = 1)
    (h : DataW.trod enc P w 0 spare held fuel t [v] = some x) : ∃ A c l, v = .slice A (List.length l) c ∧ l.length ≤ maxLen ∧ SlV w w.heap.size 1 A l.length (devCs l) := by
  rcases open_slice1 ht hC h with ⟨h1, _⟩ | ⟨a, len, cap, m, n, V, D, Pl, hcs, hb, hl, hm, hmm, hx, hi⟩
  · injection h1 with h1 _
    exact ⟨none, 0, [], h1, Nat.zero_le _, SlV.nil _ _ _ _⟩
  · injection hcs with hv _
    have hlm : len ≤ m := by rw [hmm]; split <;> omega
    obtain ⟨F, hF⟩ := choose_lt (α := Bool) (n := len) (p := fun i q => w.cell? (a.add i) = some (.bool q)) (fun i hin => by
      obtain ⟨h1, h2⟩ := hi i (by omega)
      obtain ⟨b, hb, _⟩ := DataW.trod_bool he h2
      injection hb with hb _
      exact ⟨b, by rw [h1, hb]⟩)
    have hlen : ((List.range len).map F).length = len := by simp
    refine ⟨some a, cap, (List.range len).map F, by rw [hlen]; exact hv, by rw [hlen]; exact Nat.le_trans hl hm, ⟨devCs_len _, fun hn => ?_⟩⟩
    rw [hlen] at hn ⊢
    have hsp : a.spot = none := by
      have := hF 0 hn
      simpa [Addr.add] using World.cell?_spot this
    obtain ⟨b, off, sp⟩ := a
    subst hsp
    have h0 := hF 0 hn
    rw [add_plain] at h0
    refine ⟨b, off, rfl, block_lt_of_cell h0, fun j hj => ?_⟩
    have := hF j (by omega)
    rw [add_plain] at this
    rw [this]
    simp [devCs, show j < len by omega]
/-- A slice of structs of a bool and an int64. -/
theorem slv_mnts {t e : TypeId} {fs : Array Field} {fuel : Nat} {v : Value} {x : DataW H × List MemPlace} (ht : P.underlying t = some (.slice e)) (he : P.underlying e = some (.struct fs))
    (hone : oneCellFields P fs = true) (hC : P.cellsOf e = 2) {f0 f1 : Field} (hf0 : fs[0]? = some f0) (hf1 : fs[1]? = some f1) (t0 : P.underlying f0.type = some .bool) (t1 : P.underlying f1.type = some (.int .i64))
    (h : DataW.trod enc P w 0 spare held fuel t [v] = some x) : ∃ A c l, v = .slice A (List.length l) c ∧ l.length ≤ maxLen ∧ SlV w w.heap.size 2 A l.length (mntCs l) := by
  rcases open_slice ht h with ⟨h1, _⟩ | ⟨a, len, cap, m, n, D, Pl, hcs, hb, hl, hm, hmm, hx, hi⟩
  · injection h1 with h1 _
    exact ⟨none, 0, [], h1, Nat.zero_le _, SlV.nil _ _ _ _⟩
  · injection hcs with hv _
    have hlm : len ≤ m := by rw [hmm]; split <;> omega
    obtain ⟨F, hF⟩ := choose_lt (α := Bool × Int) (n := len) (p := fun i q => w.cell? ((a.add (i * 2)).add 0) = some (.bool q.1) ∧ w.cell? ((a.add (i * 2)).add 1) = some (.int .i64 q.2)) (fun i hin => by
      obtain ⟨cs', hc, ht'⟩ := hi i (by omega)
      rw [hC] at hc
      obtain ⟨ys, n', _, hy, hlen, hyl, hf⟩ := DataW.trod_struct he ht'
      obtain ⟨_, hcl, hat⟩ := World.cells?_some hc
      have hone' : ∀ j, (hj : j < 2) → (cs'.drop j).take 1 = [cs'[j]'(by omega)] := fun j hj => by
        rw [List.drop_eq_getElem_cons (by omega)]
        rfl
      obtain ⟨o0, k0⟩ := hone_of hone 0 f0 hf0
      obtain ⟨o1, k1⟩ := hone_of hone 1 f1 hf1
      have h0 := hf 0 f0 hf0
      have h1 := hf 1 f1 hf1
      have ys2 : ys.length = fs.size := hyl
      have hs2 : 1 < fs.size := (Array.getElem?_eq_some_iff.1 hf1).1
      rw [o0, k0, hone' 0 (by omega), List.getElem?_eq_getElem (by omega)] at h0
      rw [o1, k1, hone' 1 (by omega), List.getElem?_eq_getElem (by omega)] at h1
      obtain ⟨b, hb, _⟩ := DataW.trod_bool t0 h0
      obtain ⟨z, hz, _, _⟩ := DataW.trod_int t1 h1
      injection hb with hb _
      injection hz with hz _
      exact ⟨(b, z), by rw [hat 0 (by omega), List.getElem?_eq_getElem (by omega), hb], by rw [hat 1 (by omega), List.getElem?_eq_getElem (by omega), hz]⟩)
    have hlen : ((List.range len).map F).length = len := by simp
    refine ⟨some a, cap, (List.range len).map F, by rw [hlen]; exact hv, by rw [hlen]; exact Nat.le_trans hl hm, ⟨mntCs_len _, fun hn => ?_⟩⟩
    rw [hlen] at hn ⊢
    have hsp : a.spot = none := by
      have := (hF 0 hn).1
      simpa [Addr.add] using World.cell?_spot this
    obtain ⟨b, off, sp⟩ := a
    subst hsp
    have h0 := (hF 0 hn).1
    rw [add_plain, add_plain] at h0
    refine ⟨b, off, rfl, block_lt_of_cell h0, fun j hj => ?_⟩
    have hjl : j / 2 < ((List.range len).map F).length := by rw [hlen]; omega
    obtain ⟨p0, p1⟩ := mntCs_at _ hjl
    have e : mntA ((List.range len).map F) (j / 2) = F (j / 2) := by simp [mntA, List.getD, show j / 2 < len by omega]
    rw [e] at p0 p1
    have hh := hF (j / 2) (by omega)
    rw [add_plain, add_plain, add_plain] at hh
    rcases (by omega : j = j / 2 * 2 ∨ j = j / 2 * 2 + 1) with h | h
    · rw [← h] at p0 hh
      rw [p0]
      have := hh.1
      rwa [Nat.add_zero] at this
    · rw [← h] at p1
      rw [p1]
      have := hh.2
      rwa [Nat.add_assoc, ← h] at this
end

theorem fields_state : ∃ fs, Tryz.prog.underlying 32 = some (.struct fs) ∧ oneCellFields Tryz.prog fs = true ∧ Tryz.prog.cellsOf 32 = fs.size ∧ fs.size = 12 ∧
    fs.map (·.type) = #[2, 4, 2, 2, 2, 2, 28, 29, 30, 23, 2, 2] :=
  ⟨_, Tryz.underlying32, by kernel_rfl, by kernel_rfl, by kernel_rfl, by kernel_rfl⟩
theorem fs_podAt : ∃ fs, Tryz.prog.underlying 123 = some (.struct fs) ∧ oneCellFields Tryz.prog fs = true ∧ intFields Tryz.prog fs = true ∧ fs.size = 2 := ⟨_, Tryz.underlying123, by kernel_rfl, by kernel_rfl, by kernel_rfl⟩
theorem fs_mntAt : ∃ fs, Tryz.prog.underlying 125 = some (.struct fs) ∧ oneCellFields Tryz.prog fs = true ∧ fs.map (·.type) = #[4, 2] := ⟨_, Tryz.underlying125, by kernel_rfl, by kernel_rfl⟩

set_option maxRecDepth 100000 in
theorem open_state {H : Type} {enc : TypeId × Value → H} {W : World} {spare : Nat → Bool} {held : Bool} {r : Reach} {b0 : Nat} {v : Value} {d : DataW H} {p : List MemPlace}
    (hv : Value.okWide Tryz.prog W r b0 32 v) (h : DataW.Trod enc Tryz.prog W 0 spare held 32 v d p) : ∃ s : StD, IsSt W W.heap.size v s := by
  obtain ⟨fs, hu, hone, hC, h12, hts⟩ := fields_state
  obtain ⟨cs, rfl, hsz, n, hf⟩ := agg_of_trod hu hone hC hv h
  rw [h12] at hsz
  obtain ⟨f0, j0, t0⟩ := at_of_map hts (j := 0) rfl
  obtain ⟨y0, h0⟩ := hf 0 f0 j0
  rw [t0] at h0
  obtain ⟨f1, j1, t1⟩ := at_of_map hts (j := 1) rfl
  obtain ⟨y1, h1⟩ := hf 1 f1 j1
  rw [t1] at h1
  obtain ⟨f2, j2, t2⟩ := at_of_map hts (j := 2) rfl
  obtain ⟨y2, h2⟩ := hf 2 f2 j2
  rw [t2] at h2
  obtain ⟨f3, j3, t3⟩ := at_of_map hts (j := 3) rfl
  obtain ⟨y3, h3⟩ := hf 3 f3 j3
  rw [t3] at h3
  obtain ⟨f4, j4, t4⟩ := at_of_map hts (j := 4) rfl
  obtain ⟨y4, h4⟩ := hf 4 f4 j4
  rw [t4] at h4
  obtain ⟨f5, j5, t5⟩ := at_of_map hts (j := 5) rfl
  obtain ⟨y5, h5⟩ := hf 5 f5 j5
  rw [t5] at h5
  obtain ⟨f6, j6, t6⟩ := at_of_map hts (j := 6) rfl
  obtain ⟨y6, h6⟩ := hf 6 f6 j6
  rw [t6] at h6
  obtain ⟨f7, j7, t7⟩ := at_of_map hts (j := 7) rfl
  obtain ⟨y7, h7⟩ := hf 7 f7 j7
  rw [t7] at h7
  obtain ⟨f8, j8, t8⟩ := at_of_map hts (j := 8) rfl
  obtain ⟨y8, h8⟩ := hf 8 f8 j8
  rw [t8] at h8
  obtain ⟨f9, j9, t9⟩ := at_of_map hts (j := 9) rfl
  obtain ⟨y9, h9⟩ := hf 9 f9 j9
  rw [t9] at h9
  obtain ⟨f10, j10, t10⟩ := at_of_map hts (j := 10) rfl
  obtain ⟨y10, h10⟩ := hf 10 f10 j10
  rw [t10] at h10
  obtain ⟨f11, j11, t11⟩ := at_of_map hts (j := 11) rfl
  obtain ⟨y11, h11⟩ := hf 11 f11 j11
  rw [t11] at h11
  obtain ⟨z0, e0, _, _⟩ := DataW.trod_int Tryz.underlying2 h0
  injection e0 with e0 _
  obtain ⟨z1, e1, _⟩ := DataW.trod_bool Tryz.underlying4 h1
  injection e1 with e1 _
  obtain ⟨z2, e2, _, _⟩ := DataW.trod_int Tryz.underlying2 h2
  injection e2 with e2 _
  obtain ⟨z3, e3, _, _⟩ := DataW.trod_int Tryz.underlying2 h3
  injection e3 with e3 _
  obtain ⟨z4, e4, _, _⟩ := DataW.trod_int Tryz.underlying2 h4
  injection e4 with e4 _
  obtain ⟨z5, e5, _, _⟩ := DataW.trod_int Tryz.underlying2 h5
  injection e5 with e5 _
  obtain ⟨z10, e10, _, _⟩ := DataW.trod_int Tryz.underlying2 h10
  injection e10 with e10 _
  obtain ⟨z11, e11, _, _⟩ := DataW.trod_int Tryz.underlying2 h11
  injection e11 with e11 _
  obtain ⟨ps, ps1, ps2, ps3, ps4⟩ := fs_podAt
  obtain ⟨ms, ms1, ms2, ms3⟩ := fs_mntAt
  obtain ⟨q0, i0, u0⟩ := at_of_map ms3 (j := 0) rfl
  obtain ⟨q1, i1, u1⟩ := at_of_map ms3 (j := 1) rfl
  obtain ⟨A6, n6, c6, X6, e6, b6, s6⟩ := sl_structs Tryz.underlying28 ps1 ps2 ps3 (by kernel_rfl) ps4 (by omega) h6
  obtain ⟨A7, c7, l7, e7, b7, s7⟩ := slv_mnts Tryz.underlying29 ms1 ms2 (by kernel_rfl) i0 i1 (by rw [u0]; exact Tryz.underlying4) (by rw [u1]; exact Tryz.underlying2) h7
  obtain ⟨A8, c8, l8, e8, b8, s8⟩ := slv_bools Tryz.underlying30 Tryz.underlying4 (by kernel_rfl) h8
  obtain ⟨A9, n9, c9, X9, e9, b9, s9⟩ := sl_ints Tryz.underlying23 Tryz.underlying2 (by kernel_rfl) h9
  have k6 : ((List.range n6).map fun i => (X6 (i * 2), X6 (i * 2 + 1))).length = n6 := by simp
  have k9 : ((List.range n9).map X9).length = n9 := by simp
  refine ⟨⟨z0, z1, z2, z3, z4, z5, (List.range n6).map fun i => (X6 (i * 2), X6 (i * 2 + 1)), l7, l8, (List.range n9).map X9, z10, z11⟩, ⟨A6, A7, A8, A9, c6, c7, c8, c9, ?_, by rw [k6]; exact slv_pods s6, s7, s8, by rw [k9]; exact slv_ints s9⟩, by rw [k6]; exact b6, b7, b8, by rw [k9]; exact b9⟩
  dsimp only
  rw [k6, k9]
  congr 1
  apply Array.ext (by simp [hsz])
  intro i hi _
  match i, hi with
  | 0, _ => exact e0
  | 1, _ => exact e1
  | 2, _ => exact e2
  | 3, _ => exact e3
  | 4, _ => exact e4
  | 5, _ => exact e5
  | 6, _ => exact e6
  | 7, _ => exact e7
  | 8, _ => exact e8
  | 9, _ => exact e9
  | 10, _ => exact e10
  | 11, _ => exact e11
  | k + 12, hi => omega
end Go.Proofs.YtlfppcppjbfieaaGreatDoor
/- Ca -/
set_option linter.unusedVariables false
namespace Go.Proofs.YtlfppcppjbfieaaGreatDoor
open Go.ChangeShapes Go.WideShapes Go.ChangeAt Go.RowKit Go.Deep

abbrev namesLaid {H : Type} : DataW H := Rows.laid_loop_example_g00767_impl_kindNames
theorem names_global : Tryz.prog.globalNamed "loop.example/g00767/impl.kindNames" = some 0 := by kernel_rfl
theorem names_type : (Tryz.prog.globals[0]?).map (·.type) = some 146 := by kernel_rfl

set_option maxRecDepth 100000 in
theorem names_of_laid {W : World} (h : laidMetH Tryz.prog [("loop.example/g00767/impl.kindNames", namesLaid)] W) : Names W := by
  have h' : laidMet Tryz.prog [("loop.example/g00767/impl.kindNames", namesLaid)] W := h
  obtain ⟨ps, ⟨g, t, cs, fuel, p, q, h1, h2, h3, h4, _, _⟩, _, _⟩ := h'
  obtain rfl := Option.some.inj (names_global.symm.trans h1)
  obtain rfl := Option.some.inj (names_type.symm.trans h2)
  obtain ⟨xs, m, rfl, hx, hcl, hxl, hat⟩ := DataW.trod_array Tryz.underlying146 h4
  have hce : Tryz.prog.cellsOf 9 = 1 := by kernel_rfl
  have hc13 : Tryz.prog.cellsOf 146 = 13 := by kernel_rfl
  rw [hc13] at hcl
  have hcell := fun i => World.var?_cell names_global h3 i
  have hsz : cs.size = 13 := by simpa using hcl
  have hlt : 0 < W.heap.size := by
    have h0 := hcell 0
    rcases Nat.eq_zero_or_pos W.heap.size with hz | hz
    · rw [Array.getElem?_eq_getElem (by omega)] at h0
      simp [World.cell?, hz] at h0
    · exact hz
  refine ⟨hlt, fun i hi => ?_⟩
  rw [hcell i]
  have hi' := hat i hi
  rw [hce, Nat.mul_one] at hi'
  have hone : (cs.toList.drop i).take 1 = [cs[i]'(by omega)] := by
    rw [List.drop_eq_getElem_cons (by simp; omega)]
    simp
  rw [hone] at hi'
  rw [Array.getElem?_eq_getElem (by omega)]
  cases hxi : xs[i]? with
  | none => rw [List.getElem?_eq_none_iff] at hxi; omega
  | some x =>
    rw [hxi] at hi'
    obtain ⟨s, hs, rfl, _⟩ := DataW.trod_string Tryz.underlying9 hi'
    injection hs with hs _
    have hd : (xs.map (·.1))[i]? = some (.lit (.string s.data.toList)) := by simp [hxi]
    have hx1 := congrArg Prod.fst hx
    have hx1 : (namesLaid : DataW Unit) = .agg (xs.map (·.1)) := hx1
    have hx2 : xs.map (·.1) = _ := (DataW.agg.inj hx1).symm
    rw [hx2] at hd
    rw [hs]
    congr 2
    rcases (by omega : i = 0 ∨ i = 1 ∨ i = 2 ∨ i = 3 ∨ i = 4 ∨ i = 5 ∨ i = 6 ∨ i = 7 ∨ i = 8 ∨ i = 9 ∨ i = 10 ∨ i = 11 ∨ i = 12) with rfl | rfl | rfl | rfl | rfl | rfl | rfl | rfl | rfl | rfl | rfl | rfl | rfl
    all_goals
      apply ByteArray.ext
      apply Array.toList_inj.1
      exact (Lit.string.inj (DataW.lit.inj (Option.some.inj hd))).symm

/-- A world in which the variable lies as it is listed. -/
noncomputable def laidWorld (os : Os) : World :=
  let w0 := World.holding Tryz.prog os ⟨#[], #[], []⟩
  { w0 with heap := w0.heap.modify 0 fun
      | .cells _ t frozen => .cells #[.string (nameOf 0), .string (nameOf 1), .string (nameOf 2), .string (nameOf 3), .string (nameOf 4), .string (nameOf 5), .string (nameOf 6), .string (nameOf 7), .string (nameOf 8), .string (nameOf 9), .string (nameOf 10), .string (nameOf 11), .string (nameOf 12)] t frozen
      | o => o }
theorem laidWorld_met (os : Os) (args : Array Value) : laidMetH Tryz.prog [("loop.example/g00767/impl.kindNames", namesLaid)] ((laidWorld os).forCall (fun _ _ => 0) ⟨#[], args, []⟩).memory :=
  laidMet_of_run' 8 (by kernel_rfl) (by kernel_rfl)
end Go.Proofs.YtlfppcppjbfieaaGreatDoor
/- Cb -/
set_option linter.unusedVariables false
namespace Go.Proofs.YtlfppcppjbfieaaGreatDoor
open Go.ChangeShapes Go.WideShapes Go.ChangeAt Go.RowKit Go.Deep

theorem fields_rec : ∃ fs, Tryz.prog.underlying 34 = some (.struct fs) ∧ oneCellFields Tryz.prog fs = true ∧ Tryz.prog.cellsOf 34 = fs.size ∧ fs.size = 3 ∧
    fs.map (·.type) = #[2, 2, 2] :=
  ⟨_, Tryz.underlying34, by kernel_rfl, by kernel_rfl, by kernel_rfl, by kernel_rfl⟩
set_option maxRecDepth 100000 in
theorem open_rec {H : Type} {enc : TypeId × Value → H} {W : World} {spare : Nat → Bool} {held : Bool} {r : Reach} {b0 : Nat} {v : Value} {d : DataW H} {p : List MemPlace}
    (hv : Value.okWide Tryz.prog W r b0 34 v) (h : DataW.Trod enc Tryz.prog W 0 spare held 34 v d p) : ∃ a b c : Int, v = .agg #[.int .i64 a, .int .i64 b, .int .i64 c] := by
  obtain ⟨fs, hu, hone, hC, h7, hts⟩ := fields_rec
  obtain ⟨cs, rfl, hsz, n, hf⟩ := agg_of_trod hu hone hC hv h
  rw [h7] at hsz
  obtain ⟨f0, j0, t0⟩ := at_of_map hts (j := 0) rfl
  obtain ⟨f1, j1, t1⟩ := at_of_map hts (j := 1) rfl
  obtain ⟨f2, j2, t2⟩ := at_of_map hts (j := 2) rfl
  obtain ⟨y0, h0⟩ := hf 0 f0 j0
  obtain ⟨y1, h1⟩ := hf 1 f1 j1
  obtain ⟨y2, h2⟩ := hf 2 f2 j2
  rw [t0] at h0
  rw [t1] at h1
  rw [t2] at h2
  obtain ⟨a, e0, _, _⟩ := DataW.trod_int Tryz.underlying2 h0
  obtain ⟨b, e1, _, _⟩ := DataW.trod_int Tryz.underlying2 h1
  obtain ⟨c, e2, _, _⟩ := DataW.trod_int Tryz.underlying2 h2
  injection e0 with e0 _
  injection e1 with e1 _
  injection e2 with e2 _
  refine ⟨a, b, c, ?_⟩
  congr 1
  apply Array.ext (by simp [hsz])
  intro i hi _
  match i, hi with
  | 0, _ => exact e0
  | 1, _ => exact e1
  | 2, _ => exact e2
  | k + 3, hi => omega

theorem fs_rec : ∃ fs, Tryz.prog.underlying 34 = some (.struct fs) ∧ oneCellFields Tryz.prog fs = true ∧ intFields Tryz.prog fs = true ∧ fs.size = 3 := ⟨_, Tryz.underlying34, by kernel_rfl, by kernel_rfl, by kernel_rfl⟩
set_option maxRecDepth 100000 in
theorem open_recs {H : Type} {enc : TypeId × Value → H} {W : World} {spare : Nat → Bool} {held : Bool} {r : Reach} {b0 : Nat} {v : Value} {d : DataW H} {p : List MemPlace}
    (hv : Value.okWide Tryz.prog W r b0 57 v) (h : DataW.Trod enc Tryz.prog W 0 spare held 57 v d p) : ∃ A n c X, v = .slice A n c ∧ n ≤ maxLen ∧ Sl W W.heap.size 3 A n X := by
  obtain ⟨ps, ps1, ps2, ps3, ps4⟩ := fs_rec
  obtain ⟨a0, l0, c0, rfl⟩ := okWide_slice Tryz.underlying57 hv
  obtain ⟨fuel, hf⟩ := h
  have hf : DataW.trod enc Tryz.prog W 0 spare held fuel 57 [.slice a0 l0 c0] = some (d, p) := hf
  exact sl_structs Tryz.underlying57 ps1 ps2 ps3 (by kernel_rfl) ps4 (by omega) hf
end Go.Proofs.YtlfppcppjbfieaaGreatDoor
/- YdCard -/
set_option linter.unusedVariables false
namespace Go.Proofs.YtlfppcppjbfieaaGreatDoor
open Go.ChangeShapes Go.WideShapes Go.ChangeAt Go.RowKit Go.Deep

namespace fnExactAppliedRecRow
set_option maxRecDepth 100000 in
theorem contract (H : Type) (enc : TypeId × Value → H) (W : World) (base : Nat) (args : Array Value) (ds gs : List (DataW H)) (before : List MemPlace)
    (hval : ∀ (j : Nat) t v, Tryz.f3.params[j]? = some t → args[j]? = some v → Value.okWide Tryz.prog W .any base t v)
    (hW : DataW.Whole enc Tryz.prog Tryz.f3.params.toList Rows.fnExactAppliedRecSpec.vars false W args.toList ds gs before)
    (hL : laidMetH Tryz.prog Rows.fnExactAppliedRecRow.laid W) :
    Calls Tryz.prog 3 args W fun e W' => ∃ v, e = .returned v ∧ Rows.fnExactAppliedRecSpec.post enc Tryz.prog Tryz.f3 false true false false W args v W' := by
  have hW' := hW
  obtain ⟨p, q, hA0, hV, rfl, hfz, hnd⟩ := hW
  have hA : DataW.TrodAll enc Tryz.prog W 0 (fun _ => true) true Tryz.f3.params.toList args.toList ds p := hA0
  rw [Tryz.params3] at hA hval
  obtain ⟨v0, v1, v2, d0, d1, d2, p0, p1, p2, rfl, rfl, rfl, h0, h1, h2⟩ := trodAll_three hA
  have hN := names_of_laid hL
  have hlt0 : ∀ x ∈ p0, x.block < W.heap.size := fun x hx => hW'.lt x (List.mem_append_left _ (List.mem_append_left _ (List.mem_append_left _ hx)))
  have hlt1 : ∀ x ∈ p1, x.block < W.heap.size := fun x hx => hW'.lt x (List.mem_append_left _ (List.mem_append_left _ (List.mem_append_right _ hx)))
  have hlt2 : ∀ x ∈ p2, x.block < W.heap.size := fun x hx => hW'.lt x (List.mem_append_left _ (List.mem_append_right _ hx))
  obtain ⟨dv, rfl⟩ : ∃ dv, gs = [dv] := by obtain ⟨_, _, _, _, dv, _, e, _⟩ := trodVars_one hV; exact ⟨dv, e⟩
  obtain ⟨D, hD⟩ := open_plan (hval 0 27 v0 rfl rfl) h0
  obtain ⟨s, hS⟩ := open_state (hval 1 32 v1 rfl rfl) h1
  obtain ⟨a, b, c, rfl⟩ := open_rec (hval 2 34 v2 rfl rfl) h2
  clear hA0
  refine (lawRec v0 v1 D s ⟨a, b, c⟩ W hD hS hN).mono fun e W' ⟨he, K⟩ => ?_
  subst he
  refine ⟨_, rfl, ⟨_, _, _, [], p0 ++ p1 ++ p2, q, hW', ?_, ?_, ?_, K.frame _, fun h => by cases h⟩⟩
  · exact trodAll_mk1 (shut_bool Tryz.underlying4 _)
  · rw [List.append_assoc]
    exact trodAll_mk3 (Below.trod laid_ (by kernel_rfl) (of_decide_eq_true (by kernel_rfl)) h0 K hlt0) (Below.trod laid_ (by kernel_rfl) (of_decide_eq_true (by kernel_rfl)) h1 K hlt1) (Below.trod laid_ (by kernel_rfl) (of_decide_eq_true (by kernel_rfl)) h2 K hlt2)
  · exact Below.trodVars laid_ K (by kernel_rfl) hV

set_option maxRecDepth 100000 in
theorem lifted (os : Os) (started : os.Started) (H : Type) (enc : TypeId × Value → H) :
    ReturnsInHanded {} Tryz.checked os 3 .any (fun w args => (Rows.fnExactAppliedRecSpec.pre enc Tryz.prog Tryz.f3 Rows.fnExactAppliedRecRow.domain false w args ∧ laidMetH Tryz.prog Rows.fnExactAppliedRecRow.laid w) ∧ sizedMet enc Tryz.prog Tryz.f3 (OpenSpec.ofChange Rows.fnExactAppliedRecSpec) false w args)
      (Rows.fnExactAppliedRecSpec.post enc Tryz.prog Tryz.f3 false true false false) := by
  refine returnsInHanded_of_change_and (C := Tryz.checked) (X := fun w _ => laidMetH Tryz.prog Rows.fnExactAppliedRecRow.laid w) (fun _ _ _ hh h => h.of_heap hh) own_ started (by kernel_rfl) Tryz.func3
    (ChangeSpec.witness_at (enc := enc) (C := Tryz.checked) (os := os) (X := fun w _ => laidMetH Tryz.prog Rows.fnExactAppliedRecRow.laid w) false (laidWorld os) #[planV none none none none 0 0 0 0 0 0 0 0 0 0 0, .agg (stC none none none none 0 0 0 0 0 0 0 0 0 false 0 0 0 0 0 0), .agg #[.int .i64 0, .int .i64 0, .int .i64 0]] 8 rfl (by kernel_rfl) (by kernel_rfl) (by kernel_rfl) (by kernel_rfl) (by kernel_rfl) (laidWorld_met os _)) ?_
  intro W base args ds gs before hval hW _ _ hL _
  exact contract H enc W base args ds gs before hval hW hL
end fnExactAppliedRecRow

theorem fnExactAppliedRec_row : Rows.FnExactAppliedRecSaid :=
  OpenClaim.holds_of_wide 3 Tryz.f3 rfl rfl rfl rfl rfl rfl rfl ⟨rfl, rfl, rfl, rfl, rfl⟩ rfl rfl rfl rfl rfl (by kernel_rfl) Tryz.func3 (by kernel_rfl)
    (of_decide_eq_true (by kernel_rfl)) (by unfold Func.isWrapper; first | (rw [if_pos (by decide +kernel)]; kernel_rfl) | (rw [if_neg (by decide +kernel)]; exact ⟨rfl, rfl⟩))
    (fun os started H enc _ => fnExactAppliedRecRow.lifted os started H enc)
theorem fnExactAppliedRec_holds : Rows.FnExactAppliedRecCardSaid :=
  Claim7.holds_tied_plain_at .later [] [.data] true (true, "c3a396cc83476b57a5ec739f8f0cdcc496ffaec6fec867abeeb5119e2cb3c5c6") false
    fnExactAppliedRec_row (fun _ h => by cases h) (by kernel_rfl) (fun _ h => by cases h) fnExactAppliedRec_row_tie rfl ⟨rfl, rfl⟩ (by kernel_rfl) rfl
    (fun f fn hf hfn => by
      obtain rfl : f = 3 := Option.some.inj ((show Tryz.prog.funcNamed "loop.example/g00767/laws.FnExactAppliedRec" = some 3 by kernel_rfl).symm.trans hf) |>.symm
      obtain rfl : fn = Tryz.f3 := (Option.some.inj (Tryz.func3.symm.trans hfn)).symm
      exact ⟨by kernel_rfl, fun j t ht => by
        rw [Tryz.params3] at ht
        have h3 : t = 27 ∨ t = 32 ∨ t = 34 := by
          rcases j with _ | _ | _ | j
          · exact .inl (by simpa using ht.symm)
          · exact .inr (.inl (by simpa using ht.symm))
          · exact .inr (.inr (by simpa using ht.symm))
          · simp at ht
        rcases h3 with rfl | rfl | rfl
        · exact (show Tryz.prog.wantsStandIn 27 = false by kernel_rfl)
        · exact (show Tryz.prog.wantsStandIn 32 = false by kernel_rfl)
        · exact (show Tryz.prog.wantsStandIn 34 = false by kernel_rfl)⟩)
    (by kernel_rfl)
#print axioms fnExactAppliedRec_holds
end Go.Proofs.YtlfppcppjbfieaaGreatDoor
