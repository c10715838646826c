/-
  The model's cursor: a number below n, whatever the bytes.
-/
import Derived.Test.YtbcpimnbmjhjlaaA1
set_option linter.unusedVariables false
namespace Go.Proofs.Ytbcpimnbmjhjlaa
open Go.RowKit

/-- 'and' with a mask is from 0 to the mask. -/
theorem bits_and_le (k : IntKind) (hk : k = .u64 ∨ k = .i64) (x : Int) (m : Nat) (hm : m < 9223372036854775808) : 0 ≤ bits .and k x (m : Int) ∧ bits .and k x (m : Int) ≤ m := by
  have h : (BitVec.ofInt 64 (m : Int)).toNat = m := by simp; omega
  have hN : (BitVec.ofInt 64 x &&& BitVec.ofInt 64 (m : Int)).toNat ≤ m := by
    rw [BitVec.toNat_and, h]; exact Nat.and_le_right
  rcases hk with rfl | rfl
  · have e : bits .and .u64 x (m : Int) = IntKind.u64.wrap ((BitVec.ofInt 64 x &&& BitVec.ofInt 64 (m : Int)).toNat : Int) := rfl
    rw [e]
    generalize (BitVec.ofInt 64 x &&& BitVec.ofInt 64 (m : Int)).toNat = N at hN
    have e2 : IntKind.u64.wrap (N : Int) = N := by simp [IntKind.wrap, IntKind.bits, IntKind.signed]; omega
    rw [e2]; omega
  · have e : bits .and .i64 x (m : Int) = IntKind.i64.wrap ((BitVec.ofInt 64 x &&& BitVec.ofInt 64 (m : Int)).toNat : Int) := rfl
    rw [e]
    generalize (BitVec.ofInt 64 x &&& BitVec.ofInt 64 (m : Int)).toNat = N at hN
    rw [IntWalk.i64_in _ (by omega)]; omega
theorem and_u24 (x : Int) : 0 ≤ bits .and .u64 x 16777215 ∧ bits .and .u64 x 16777215 ≤ 16777215 := bits_and_le .u64 (.inl rfl) x 16777215 (by decide)
/-- The bytes that came in, below block B. -/
def Bytes (w : World) (B : Nat) (A : Option Addr) (n : Nat) : Prop :=
  0 < n → ∃ b off, A = some ⟨b, off, none⟩ ∧ b < B ∧ ∀ j, j < n → ∃ z : Int, w.cell? ⟨b, off + j, none⟩ = some (.int .u8 z) ∧ 0 ≤ z ∧ z ≤ 255
/-- The cells of a cursor: the bytes, how many are used, a number. -/
abbrev curC (k : IntKind) (A : Option Addr) (n c : Nat) (i h : Int) : Array Value := #[.slice A n c, .int .i64 i, .int k h]
/-- A cursor at block g, of type T, over bytes below block B. -/
structure Cur (T : TypeId) (k : IntKind) (w : World) (g : Nat) : Prop where
  it : ∃ A n c i h, w.heap[g]? = some (.cells (curC k A n c i h) T (0, 0)) ∧ 0 ≤ i ∧ i ≤ (n : Int) ∧ n ≤ 4096 ∧ Bytes w g A n
theorem Bytes.below {w w' : World} {B B' n : Nat} {A : Option Addr} (h : Bytes w B A n) (hb : Below B' w w') (hB : B ≤ B') : Bytes w' B A n := fun hn => by
  obtain ⟨b, off, rfl, hlt, hc⟩ := h hn
  exact ⟨b, off, rfl, hlt, fun j hj => by obtain ⟨z, hz, hr⟩ := hc j hj; exact ⟨z, (hb.cell (p := ⟨b, off + j, none⟩) (by show b < B'; omega)).trans hz, hr⟩⟩
theorem Cur.of {T : TypeId} {k : IntKind} {w w' : World} {g : Nat} {A : Option Addr} {n c : Nat} {i h : Int} (hB : Bytes w g A n) (hm : n ≤ 4096) (hk : Keeps (· = g) w w') (hgs : g < w.heap.size)
    (hg : w'.heap[g]? = some (.cells (curC k A n c i h) T (0, 0))) (i0 : 0 ≤ i) (i1 : i ≤ (n : Int)) : Cur T k w' g :=
  ⟨A, n, c, i, h, hg, i0, i1, hm, hB.below (hk.below (B := g) (by omega) (fun b hb e => by omega)) (Nat.le_refl _)⟩
/-- Behind a draw of a number: it is from 0 to n - 1; only the cursor's own block has turned. -/
def Drawn (T : TypeId) (k : IntKind) (g : Nat) (n : Int) (w : World) (e : Ending) (w' : World) : Prop :=
  ∃ r : Int, e = .returned (.int .i64 r) ∧ 0 ≤ r ∧ r < n ∧ Cur T k w' g ∧ Keeps (· = g) w w'
theorem and_i8 (x : Int) : 0 ≤ bits .and .i64 x 255 ∧ bits .and .i64 x 255 ≤ 255 := bits_and_le .i64 (.inr rfl) x 255 (by decide)
set_option maxRecDepth 100000 in
set_option maxHeartbeats 1000000 in
theorem l1Byte_any (g : Nat) (w : World) (h : Cur 49 .i64 w g) :
    Calls Try.prog 22 #[.pointer (some ⟨g, 0, none⟩)] w (Drawn 49 .i64 g 256 w) := by
  obtain ⟨A, m, c, i, hh, hg, i0, i1, hm, hB⟩ := h
  have q0 := cell_of_row w g 0 _ _ _ hg
  have q1 := cell_of_row w g 1 _ _ _ hg
  have q2 := cell_of_row w g 2 _ _ _ hg
  have f2 := frozen_of_row w g 2 _ _ hg
  have f1 := frozen_of_row w g 1 _ _ hg
  simp at q0 q1 q2
  go_enter Try.func22, Try.ntmps22
  have HR := Lib.hid (and_i8 (bits BinOp.xor IntKind.i64 (wrap64 (wrap64 (hh * 6364136223846793005) + 1442695040888963407) / 8589934592) (wrap64 (wrap64 (hh * 6364136223846793005) + 1442695040888963407) / 35184372088832)))
  go_wp2_with fail
  go_quiet (fail)
  go_wp2_with fail
  generalize bits BinOp.and IntKind.i64 (bits BinOp.xor IntKind.i64 (wrap64 (wrap64 (hh * 6364136223846793005) + 1442695040888963407) / 8589934592) (wrap64 (wrap64 (hh * 6364136223846793005) + 1442695040888963407) / 35184372088832)) 255 = X at HR ⊢
  obtain ⟨X0, X1⟩ := HR.out
  have hgs : g < w.heap.size := (Array.getElem?_eq_some_iff.1 hg).1
  by_cases hlt : i < m
  · obtain ⟨b, off, rfl, hbg, hz⟩ := hB (by omega)
    obtain ⟨i, rfl⟩ := Int.eq_ofNat_of_zero_le i0
    obtain ⟨z, hz0, z0, z1⟩ := hz i (by omega)
    clear hz
    go_quiet (fail)
    have HB := Lib.hid hB
    clear hB
    have e1 : IntKind.i64.wrap (X + z) = X + z := IntWalk.i64_in _ (by omega)
    have e2 : IntKind.i64.wrap z = z := IntWalk.i64_in _ (by omega)
    have p1 : 0 ≤ X + z := by omega
    go_wp2_with fail
    go_quiet (fail)
    clear e1 e2
    go_wp2_with fail
    go_ret
    have HY := and_i8 (X + z)
    refine ⟨_, rfl, HY.1, by have := HY.2; omega, Cur.of (i := (i : Int) + 1) HB.out hm ?_ hgs (heap_setCell_same _ g 1 _ _ _ (heap_setCell_same w g 2 _ _ _ hg)) (by omega) (by omega), ?_⟩
    · exact ((((Keeps.refl (· = g) w).set (p := ⟨g, 2, none⟩) rfl _).drewN _)).set (p := ⟨g, 1, none⟩) rfl _
    · exact ((((Keeps.refl (· = g) w).set (p := ⟨g, 2, none⟩) rfl _).drewN _)).set (p := ⟨g, 1, none⟩) rfl _
  · go_quiet (fail)
    go_wp2_with fail
    go_ret
    refine ⟨_, rfl, X0, by omega, Cur.of (i := i) hB hm ?_ hgs (heap_setCell_same w g 2 _ _ _ hg) (by omega) (by omega), ?_⟩
    · exact ((Keeps.refl (· = g) w).set (p := ⟨g, 2, none⟩) rfl _).drewN _
    · exact ((Keeps.refl (· = g) w).set (p := ⟨g, 2, none⟩) rfl _).drewN _
set_option maxRecDepth 100000 in
set_option maxHeartbeats 1000000 in
theorem l1Below_any (g : Nat) (n : Int) (w : World) (h : Cur 49 .i64 w g) (h0 : 0 < n) (h1 : n ≤ 256) :
    Calls Try.prog 20 #[.pointer (some ⟨g, 0, none⟩), .int .i64 n] w (Drawn 49 .i64 g n w) := by
  have H := Lib.hid h
  clear h
  go_enter Try.func20, Try.ntmps20
  go_wp2_with fail
  refine (l1Byte_any g _ H.out).mono ?_
  rintro e w2 ⟨x, rfl, x0, x1, hc, hk⟩
  go_wp2_with fail
  go_ret
  exact ⟨_, rfl, Int.emod_nonneg _ (by omega), Int.emod_lt_of_pos _ h0, hc, hk⟩
/-- n not above 0: nothing is drawn. -/
theorem l1Below_no (g : Nat) (n : Int) (w : World) (h0 : n ≤ 0) :
    Calls Try.prog 20 #[.pointer (some ⟨g, 0, none⟩), .int .i64 n] w fun e w' => e = .returned (.int .i64 0) ∧ w = w' := by
  go_enter Try.func20, Try.ntmps20
  go_wp2_with fail
  go_ret
  exact ⟨rfl, rfl⟩
set_option maxRecDepth 100000 in
set_option maxHeartbeats 2000000 in
/-- n great: from four bytes. -/
theorem l1Below_big (g : Nat) (n : Int) (w : World) (h : Cur 49 .i64 w g) (h0 : 256 < n) (h1 : n ≤ 2000000) :
    Calls Try.prog 20 #[.pointer (some ⟨g, 0, none⟩), .int .i64 n] w (Drawn 49 .i64 g n w) := by
  have H := Lib.hid h
  clear h
  go_enter Try.func20, Try.ntmps20
  go_wp2_with fail
  refine (l1Byte_any g _ H.out).mono ?_
  rintro e w2 ⟨x, rfl, x0, x1, hc, hk⟩
  have HC := Lib.hid hc
  clear hc
  go_wp2_with fail
  refine (l1Byte_any g _ HC.out).mono ?_
  rintro e w3 ⟨y, rfl, y0, y1, hc, hk2⟩
  have HD := Lib.hid hc
  clear hc
  go_wp2_with fail
  refine (l1Byte_any g _ HD.out).mono ?_
  rintro e w4 ⟨z, rfl, z0, z1, hc, hk3⟩
  have HE := Lib.hid hc
  clear hc
  go_wp2_with fail
  refine (l1Byte_any g _ HE.out).mono ?_
  rintro e w5 ⟨u, rfl, u0, u1, hc, hk4⟩
  go_wp2_with fail
  go_ret
  exact ⟨_, rfl, Int.emod_nonneg _ (by omega), Int.emod_lt_of_pos _ (by omega), hc, ((hk.trans hk2).trans hk3).trans hk4⟩
theorem Bytes.more {w : World} {B B' n : Nat} {A : Option Addr} (h : Bytes w B A n) (hB : B ≤ B') : Bytes w B' A n := fun hn => by
  obtain ⟨b, off, e, hlt, hc⟩ := h hn
  exact ⟨b, off, e, by omega, hc⟩

end Go.Proofs.Ytbcpimnbmjhjlaa
