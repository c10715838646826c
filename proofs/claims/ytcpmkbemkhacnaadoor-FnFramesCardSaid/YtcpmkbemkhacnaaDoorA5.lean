/-
  The model's cursor made; its small draws.
-/
import Derived.Test.YtcpmkbemkhacnaaDoorA4
import Derived.RegionTactic
import Derived.BigRegion
set_option linter.unusedVariables false
namespace Go.Proofs.YtcpmkbemkhacnaaDoor
open Go.RowKit

theorem Cur.lt {T : TypeId} {k : IntKind} {w : World} {g : Nat} (h : Cur T k w g) : g < w.heap.size := by
  obtain ⟨A, n, c, i, hh, hg, _⟩ := h
  exact (Array.getElem?_eq_some_iff.1 hg).1
theorem Cur.keeps {T : TypeId} {k : IntKind} {S : Nat → Prop} {w w' : World} {g : Nat} (h : Cur T k w g) (kk : Keeps S w w') (hn : ∀ b, b ≤ g → ¬ S b) : Cur T k w' g := by
  have hlt := h.lt
  obtain ⟨A, n, c, i, hh, hg, i0, i1, hm, hB⟩ := h
  exact ⟨A, n, c, i, hh, (kk.block g hlt (hn g (Nat.le_refl _))).trans hg, i0, i1, hm, hB.below (kk.below (B := g) (by omega) (fun b hb => hn b (by omega))) (Nat.le_refl _)⟩
theorem Cur.below {T : TypeId} {k : IntKind} {w w' : World} {g : Nat} (h : Cur T k w g) (hb : Below w.heap.size w w') : Cur T k w' g :=
  h.keeps (S := fun _ => False) (Keeps.of_below hb) (fun _ _ => id)
/-- What a maker of a cursor answers. -/
def Rolled (T : TypeId) (k : IntKind) (w : World) (e : Ending) (w' : World) : Prop :=
  ∃ g, e = .returned (.pointer (some ⟨g, 0, none⟩)) ∧ w.heap.size ≤ g ∧ Cur T k w' g ∧ Below w.heap.size w w'
set_option maxRecDepth 100000 in
set_option maxHeartbeats 1000000 in
theorem l1New_any (A : Option Addr) (n c : Nat) (w : World) (hB : Bytes w w.heap.size A n) (hn : n ≤ 4096) :
    Calls Tryd.prog 36 #[.slice A n c] w (Rolled 79 .i64 w) := by
  have HB := Lib.hid hB
  clear hB
  go_enter Tryd.func36, Tryd.ntmps36
  go_wp2
  go_loop [3, 4] (fun h i => ∃ k : Nat, k ≤ n ∧ i = .int .i64 k ∧ ∃ z : Int, h = .int .i64 z) (fun _ i => n - (intOf i).toNat)
  case atStart => exact ⟨0, Nat.zero_le _, rfl, _, rfl⟩
  case round =>
    obtain ⟨k, hk, rfl, y, rfl⟩ := hrel
    by_cases hlt : k < n
    · obtain ⟨b, off, rfl, hbg, hz⟩ := HB.out (by omega)
      obtain ⟨z, hz0, z0, z1⟩ := hz k hlt
      clear hz
      go_wp2
      exact ⟨⟨k + 1, by omega, by go_num, _, rfl⟩, by simp [intOf]; omega⟩
    · obtain rfl : k = n := by omega
      go_wp2
      go_ret
      refine ⟨_, rfl, Nat.le_refl _, ⟨A, k, c, 0, y, heap_alloc_new _ _, by omega, by omega, hn, HB.out.below ((Below.refl _ _).alloc (Nat.le_refl _) _) (Nat.le_refl _)⟩, (Below.refl _ _).alloc (Nat.le_refl _) _⟩
/-- Behind a draw of a number from lo to hi. -/
def DrawnIn (T : TypeId) (k : IntKind) (g : Nat) (lo hi : Int) (w : World) (e : Ending) (w' : World) : Prop :=
  ∃ r : Int, e = .returned (.int .i64 r) ∧ lo ≤ r ∧ r ≤ hi ∧ Cur T k w' g ∧ Keeps (· = g) w w'
/-- Behind a draw of whatever number. -/
def DrawnInt (T : TypeId) (k : IntKind) (g : Nat) (w : World) (e : Ending) (w' : World) : Prop :=
  ∃ r : Int, e = .returned (.int .i64 r) ∧ Cur T k w' g ∧ Keeps (· = g) w w'
def DrawnBool (T : TypeId) (k : IntKind) (g : Nat) (w : World) (e : Ending) (w' : World) : Prop :=
  ∃ b : Bool, e = .returned (.bool b) ∧ Cur T k w' g ∧ Keeps (· = g) w w'
set_option maxRecDepth 100000 in
set_option maxHeartbeats 1000000 in
theorem l1From_any (g : Nat) (lo hi : Int) (w : World) (h : Cur 79 .i64 w g) (h0 : lo ≤ hi) (h1 : hi - lo < 256) (h2 : -1000 ≤ lo) (h3 : hi ≤ 1000) :
    Calls Tryd.prog 57 #[.pointer (some ⟨g, 0, none⟩), .int .i64 lo, .int .i64 hi] w (DrawnIn 79 .i64 g lo hi w) := by
  have H := Lib.hid h
  clear h
  go_enter Tryd.func57, Tryd.ntmps57
  go_wp2_with fail
  refine (l1Below_any g _ _ H.out (by omega) (by omega)).mono ?_
  rintro e w2 ⟨x, rfl, x0, x1, hc, hk⟩
  go_wp2_with fail
  go_ret
  exact ⟨_, rfl, by omega, by omega, hc, hk⟩
set_option maxRecDepth 100000 in
set_option maxHeartbeats 1000000 in
theorem l1Once_any (g : Nat) (n : Int) (w : World) (h : Cur 79 .i64 w g) (h0 : 0 < n) (h1 : n ≤ 256) :
    Calls Tryd.prog 40 #[.pointer (some ⟨g, 0, none⟩), .int .i64 n] w (DrawnBool 79 .i64 g w) := by
  have H := Lib.hid h
  clear h
  go_enter Tryd.func40, Tryd.ntmps40
  go_wp2_with fail
  refine (l1Below_any g _ _ H.out (by omega) (by omega)).mono ?_
  rintro e w2 ⟨x, rfl, x0, x1, hc, hk⟩
  go_wp2_with fail
  go_ret
  exact ⟨_, rfl, hc, hk⟩
theorem l1Min_any (a b : Int) (w : World) : Calls Tryd.prog 68 #[.int .i64 a, .int .i64 b] w fun e w' => e = .returned (.int .i64 (if a < b then a else b)) ∧ w = w' := by
  by_cases h : a < b
  · go_enter Tryd.func68, Tryd.ntmps68
    go_wp2_with fail
    go_ret
    exact ⟨ret_int rfl, rfl⟩
  · go_enter Tryd.func68, Tryd.ntmps68
    go_wp2_with fail
    go_ret
    exact ⟨ret_int rfl, rfl⟩
set_option maxRecDepth 100000 in
set_option maxHeartbeats 2000000 in
theorem l1Odd_any (g : Nat) (w : World) (h : Cur 79 .i64 w g) :
    Calls Tryd.prog 67 #[.pointer (some ⟨g, 0, none⟩)] w (DrawnInt 79 .i64 g w) := by
  have hl := h.lt
  have H := Lib.hid h
  clear h
  go_enter Tryd.func67, Tryd.ntmps67
  go_wp2_with fail
  have K1 : Below w.heap.size w _ := (Below.refl _ _).alloc (Nat.le_refl _) (.cells #[.int .i64 (-1), .int .i64 0, .int .i64 1, .int .i64 2147483648, .int .i64 (-2147483648), .int .i64 1099511627776, .int .i64 4611686018427387904, .int .i64 (-4611686018427387904), .int .i64 9223372036854775807, .int .i64 (-9223372036854775808)] 2)
  refine (l1Below_any g _ _ (H.out.below K1) (by omega) (by omega)).mono ?_
  rintro e w2 ⟨x, rfl, x0, x1, hc, hk⟩
  have hx : ∃ z : Int, w2.cell? ⟨w.heap.size, x.toNat, none⟩ = some (.int .i64 z) := by
    rw [hk.cell (p := ⟨w.heap.size, x.toNat, none⟩) (by simp) (by show ¬ w.heap.size = g; omega), cell_new]
    obtain ⟨x, rfl⟩ := Int.eq_ofNat_of_zero_le x0
    rw [Int.toNat_natCast]
    match x, x1 with
    | 0, _ => exact ⟨_, rfl⟩
    | 1, _ => exact ⟨_, rfl⟩
    | 2, _ => exact ⟨_, rfl⟩
    | 3, _ => exact ⟨_, rfl⟩
    | 4, _ => exact ⟨_, rfl⟩
    | 5, _ => exact ⟨_, rfl⟩
    | 6, _ => exact ⟨_, rfl⟩
    | 7, _ => exact ⟨_, rfl⟩
    | 8, _ => exact ⟨_, rfl⟩
    | 9, _ => exact ⟨_, rfl⟩
    | m + 10, h => omega
  obtain ⟨z, hz⟩ := hx
  have K2 : Keeps (· = g) w w2 := (Keeps.of_below K1).trans hk
  clear K1 hk
  obtain ⟨x, rfl⟩ := Int.eq_ofNat_of_zero_le x0
  rw [Int.toNat_natCast] at hz
  go_wp2_with fail
  go_ret
  exact ⟨_, rfl, hc, K2⟩
set_option maxRecDepth 100000 in
set_option maxHeartbeats 2000000 in
theorem l1Num_any (g : Nat) (most : Int) (w : World) (h : Cur 79 .i64 w g) (h0 : 0 ≤ most) (h1 : most ≤ 1500000) :
    Calls Tryd.prog 58 #[.pointer (some ⟨g, 0, none⟩), .int .i64 most] w (DrawnInt 79 .i64 g w) := by
  have hl := h.lt
  have H := Lib.hid h
  clear h
  go_enter Tryd.func58, Tryd.ntmps58
  go_wp2_with fail
  refine (l1Once_any g _ _ H.out (by omega) (by omega)).mono ?_
  rintro e w2 ⟨b, rfl, hc, hk⟩
  have HC := Lib.hid hc
  have hl2 := hc.lt
  clear hc H hl
  cases b
  · go_wp2_with fail
    refine (l1Once_any g _ _ HC.out (by omega) (by omega)).mono ?_
    rintro e w3 ⟨b, rfl, hc, hk2⟩
    have HD := Lib.hid hc
    clear hc HC hl2
    cases b
    · go_wp2_with fail
      by_cases hm : most + 1 ≤ 256
      · refine (l1Below_any g _ _ HD.out (by omega) (by omega)).mono ?_
        rintro e w4 ⟨x, rfl, x0, x1, hc, hk3⟩
        go_wp2_with fail
        go_ret
        exact ⟨_, rfl, hc, (hk.trans hk2).trans hk3⟩
      · refine (l1Below_big g _ _ HD.out (by omega) (by omega)).mono ?_
        rintro e w4 ⟨x, rfl, x0, x1, hc, hk3⟩
        go_wp2_with fail
        go_ret
        exact ⟨_, rfl, hc, (hk.trans hk2).trans hk3⟩
    · go_wp2_with fail
      refine (l1Min_any _ _ _).mono ?_
      rintro e w4 ⟨rfl, rfl⟩
      generalize hq : (if most < 4 then most else 4) = q
      have q0 : 0 ≤ q := by rw [← hq]; split <;> omega
      have q1 : q ≤ 4 := by rw [← hq]; split <;> omega
      clear hq
      go_wp2_with fail
      refine (l1Below_any g _ _ HD.out (by omega) (by omega)).mono ?_
      rintro e w4 ⟨x, rfl, x0, x1, hc, hk3⟩
      go_wp2_with fail
      go_ret
      exact ⟨_, rfl, hc, (hk.trans hk2).trans hk3⟩
  · go_wp2_with fail
    refine (l1Odd_any g _ HC.out).mono ?_
    rintro e w3 ⟨o, rfl, hc, hk2⟩
    have HD := Lib.hid hc
    have hl3 := hc.lt
    clear hc HC hl2
    go_wp2_with fail
    have K1 : Below w3.heap.size w3 _ := (Below.refl _ _).alloc (Nat.le_refl _) (.cells #[.int .i64 (-1), .int .i64 most, .int .i64 (most + 1), .int .i64 o] 2)
    refine (l1Below_any g _ _ (HD.out.below K1) (by omega) (by omega)).mono ?_
    rintro e w4 ⟨x, rfl, x0, x1, hc, hk3⟩
    have hx : ∃ z : Int, w4.cell? ⟨w3.heap.size, x.toNat, none⟩ = some (.int .i64 z) := by
      rw [hk3.cell (p := ⟨w3.heap.size, x.toNat, none⟩) (by simp) (by show ¬ w3.heap.size = g; omega), cell_new]
      obtain ⟨x, rfl⟩ := Int.eq_ofNat_of_zero_le x0
      rw [Int.toNat_natCast]
      match x, x1 with
      | 0, _ => exact ⟨_, rfl⟩
      | 1, _ => exact ⟨_, rfl⟩
      | 2, _ => exact ⟨_, rfl⟩
      | 3, _ => exact ⟨_, rfl⟩
      | m + 4, h => omega
    obtain ⟨z, hz⟩ := hx
    have K2 : Keeps (· = g) w w4 := (hk.trans hk2).trans ((Keeps.of_below K1).trans hk3)
    clear K1 hk3
    obtain ⟨x, rfl⟩ := Int.eq_ofNat_of_zero_le x0
    rw [Int.toNat_natCast] at hz
    go_wp2_with fail
    go_ret
    exact ⟨_, rfl, hc, K2⟩

end Go.Proofs.YtcpmkbemkhacnaaDoor
