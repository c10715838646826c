/-
  Orders, of the program: events behind an interface.
-/
import Derived.Test.YtdphpjnecjofeaaGreatDoorMZ19
import Derived.Laws.StructEq
import Derived.LaidEql
import Derived.Stop.Asserts
import Derived.Deep.RegionHeld3
/- La -/
set_option linter.unusedVariables false
namespace Go.Proofs.YtdphpjnecjofeaaGreatDoor
open Go.RowKit

theorem ok0 {k a b : Int} (h : k = 1 ∨ k = 2 ∨ k = 4 ∨ k = 5 ∨ k = 11) : orderOkB k a b = (inB a 0 1000000 && inB b 0 1000000 && (a == 0 && b == 0)) := by
  unfold orderOkB
  generalize inB a 0 1000000 = x
  generalize inB b 0 1000000 = y
  rcases h with rfl | rfl | rfl | rfl | rfl <;> by_cases ha : a = 0 <;> by_cases hb : b = 0 <;> simp [argsN, inB, ha, hb, bne]
theorem ok1 {k a b : Int} (h : k = 3 ∨ k = 6 ∨ k = 7 ∨ k = 8 ∨ k = 9 ∨ k = 12) : orderOkB k a b = (inB a 0 1000000 && inB b 0 1000000 && b == 0) := by
  unfold orderOkB
  generalize inB a 0 1000000 = x
  generalize inB b 0 1000000 = y
  rcases h with rfl | rfl | rfl | rfl | rfl | rfl <;> by_cases hb : b = 0 <;> simp [argsN, inB, hb, bne]
theorem ok2 (a b : Int) : orderOkB 10 a b = (inB a 0 1000000 && inB b 0 1000000) := by
  unfold orderOkB
  generalize inB a 0 1000000 = x
  generalize inB b 0 1000000 = y
  simp [argsN, inB, bne]
theorem ok3 (a b : Int) : orderOkB 13 a b = (inB a 0 1000000 && inB b 0 1000000 && (b == 0 && decide (a ≤ 1))) := by
  unfold orderOkB
  generalize inB a 0 1000000 = x
  generalize inB b 0 1000000 = y
  by_cases hb : b = 0 <;> simp [argsN, inB, hb, bne, Bool.and_assoc]
/-- What an order is as an event. -/
inductive EvD where
  | cmd (k a b : Int)
  | tick
  | boot (id : Int)
  | probe (g : Bool)
  | none
def evV : EvD → Value
  | .cmd k a b => .iface 128 (.agg (ordC k a b))
  | .tick => .iface 130 (.agg #[])
  | .boot i => .iface 132 (.agg #[.int .i64 i])
  | .probe g => .iface 134 (.agg #[.bool g])
  | .none => .nilIface
/-- The event of an order, and whether the order is right. -/
inductive EvOf (k a b : Int) : EvD → Prop where
  | c0 (h : k = 1 ∨ k = 2 ∨ k = 4 ∨ k = 5) : EvOf k a b (.cmd k 0 0)
  | c1 (h : k = 3 ∨ k = 6 ∨ k = 7 ∨ k = 8 ∨ k = 9) : EvOf k a b (.cmd k a 0)
  | c2 (h : k = 10) : EvOf k a b (.cmd k a b)
  | t (h : k = 11) : EvOf k a b .tick
  | b (h : k = 12) : EvOf k a b (.boot a)
  | p (h : k = 13) : EvOf k a b (.probe (a == 1))
  | n (h : ¬ (1 ≤ k ∧ k ≤ 13)) : EvOf k a b .none

set_option maxHeartbeats 4000000 in
theorem eventOf_any (k a b : Int) (w : World) : Calls Tryz.prog 88 #[.agg (ordC k a b)] w fun e w' => ∃ v, EvOf k a b v ∧ e = .returned (evV v) ∧ Below w.heap.size w w' := by
  have K := (Below.refl w.heap.size w).alloc (Nat.le_refl _) (.cells (ordC k a b) 70)
  by_cases h : k = 1 ∨ k = 2 ∨ k = 3 ∨ k = 4 ∨ k = 5 ∨ k = 6 ∨ k = 7 ∨ k = 8 ∨ k = 9 ∨ k = 10 ∨ k = 11 ∨ k = 12 ∨ k = 13
  · rcases h with rfl | rfl | rfl | rfl | rfl | rfl | rfl | rfl | rfl | rfl | rfl | rfl | rfl
    all_goals
      go_enter Tryz.func88, Tryz.ntmps88
      go_wp2
      all_goals go_ret
    all_goals first
      | exact ⟨_, .c0 (by omega), rfl, K⟩
      | exact ⟨_, .c1 (by omega), rfl, K⟩
      | exact ⟨_, .c2 rfl, rfl, K⟩
      | exact ⟨_, .t rfl, rfl, K⟩
      | exact ⟨_, .b rfl, rfl, K⟩
      | exact ⟨_, .p rfl, rfl, K⟩
  · have h1 : ¬ k = 1 := by omega
    have h2 : ¬ k = 2 := by omega
    have h3 : ¬ k = 3 := by omega
    have h4 : ¬ k = 4 := by omega
    have h5 : ¬ k = 5 := by omega
    have h6 : ¬ k = 6 := by omega
    have h7 : ¬ k = 7 := by omega
    have h8 : ¬ k = 8 := by omega
    have h9 : ¬ k = 9 := by omega
    have h10 : ¬ k = 10 := by omega
    have h11 : ¬ k = 11 := by omega
    have h12 : ¬ k = 12 := by omega
    have h13 : ¬ k = 13 := by omega
    have hn : ¬ (1 ≤ k ∧ k ≤ 13) := by omega
    clear h
    go_enter Tryz.func88, Tryz.ntmps88
    go_wp2
    go_ret
    exact ⟨_, .n hn, rfl, K⟩

set_option maxHeartbeats 400000 in
theorem cmdOrder_any (k a b : Int) (w : World) : Calls Tryz.prog 271 #[.agg (ordC k a b)] w fun e w' => e = .returned (.agg (ordC k a b)) ∧ Below w.heap.size w w' := by
  go_enter Tryz.func271, Tryz.ntmps271
  go_wp2
  exact bodyPost_ret (v := .agg (ordC k a b)) (by simp [results, Tryz.results271, go_sem]) rfl ⟨rfl, (((Below.refl _ _).alloc (Nat.le_refl _) _).alloc (by simp) _)⟩
set_option maxHeartbeats 400000 in
theorem tickOrder_any (w : World) : Calls Tryz.prog 272 #[.agg #[]] w fun e w' => e = .returned (.agg (ordC 11 0 0)) ∧ Below w.heap.size w w' := by
  go_enter Tryz.func272, Tryz.ntmps272
  go_wp2
  exact bodyPost_ret (v := .agg (ordC 11 0 0)) (by simp [results, Tryz.results272, go_sem]) rfl ⟨rfl, (((Below.refl _ _).alloc (Nat.le_refl _) _).alloc (by simp) _)⟩
set_option maxHeartbeats 400000 in
theorem bootOrder_any (a : Int) (w : World) : Calls Tryz.prog 273 #[.agg #[.int .i64 a]] w fun e w' => e = .returned (.agg (ordC 12 a 0)) ∧ Below w.heap.size w w' := by
  go_enter Tryz.func273, Tryz.ntmps273
  go_wp2
  exact bodyPost_ret (v := .agg (ordC 12 a 0)) (by simp [results, Tryz.results273, go_sem]) rfl ⟨rfl, (((Below.refl _ _).alloc (Nat.le_refl _) _).alloc (by simp) _)⟩
set_option maxHeartbeats 400000 in
theorem probeOrder_any (g : Bool) (w : World) : Calls Tryz.prog 274 #[.agg #[.bool g]] w fun e w' => e = .returned (.agg (ordC 13 (if g then 1 else 0) 0)) ∧ Below w.heap.size w w' := by
  cases g
  all_goals
    go_enter Tryz.func274, Tryz.ntmps274
    go_wp2
  · exact bodyPost_ret (v := .agg (ordC 13 0 0)) (by simp [results, Tryz.results274, go_sem]) rfl ⟨rfl, (((Below.refl _ _).alloc (Nat.le_refl _) _).alloc (by simp) _)⟩
  · exact bodyPost_ret (v := .agg (ordC 13 1 0)) (by simp [results, Tryz.results274, go_sem]) rfl ⟨rfl, (((Below.refl _ _).alloc (Nat.le_refl _) _).alloc (by simp) _)⟩
theorem cmdOrder_yz (k a b yy zz : Int) (h1 : a = yy) (h2 : b = zz) (w : World) : Calls Tryz.prog 271 #[.agg (ordC k a b)] w fun e w' => e = .returned (.agg (ordC k yy zz)) ∧ Below w.heap.size w w' := by subst h1 h2; exact cmdOrder_any k a b w
theorem tickOrder_yz (yy zz : Int) (h1 : 0 = yy) (h2 : 0 = zz) (w : World) : Calls Tryz.prog 272 #[.agg #[]] w fun e w' => e = .returned (.agg (ordC 11 yy zz)) ∧ Below w.heap.size w w' := by subst h1 h2; exact tickOrder_any w
theorem bootOrder_yz (a yy zz : Int) (h1 : a = yy) (h2 : 0 = zz) (w : World) : Calls Tryz.prog 273 #[.agg #[.int .i64 a]] w fun e w' => e = .returned (.agg (ordC 12 yy zz)) ∧ Below w.heap.size w w' := by subst h1 h2; exact bootOrder_any a w
theorem probeOrder_yz (g : Bool) (yy zz : Int) (h1 : (if g = true then 1 else 0 : Int) = yy) (h2 : 0 = zz) (w : World) : Calls Tryz.prog 274 #[.agg #[.bool g]] w fun e w' => e = .returned (.agg (ordC 13 yy zz)) ∧ Below w.heap.size w w' := by subst h1 h2; exact probeOrder_any g w
def evO : EvD → Int × Int × Int
  | .cmd k a b => (k, a, b)
  | .tick => (11, 0, 0)
  | .boot i => (12, i, 0)
  | .probe g => (13, if g then 1 else 0, 0)
  | .none => (0, 0, 0)
theorem evOf_ok {k a b : Int} {v : EvD} (h : EvOf k a b v) (hn : v ≠ .none) : (evO v).1 = k ∧ orderOkB k a b = (inB a 0 1000000 && inB b 0 1000000 && ((evO v).2.1 == a && (evO v).2.2 == b)) := by
  have e0 : ∀ x : Int, ((0 : Int) == x) = (x == 0) := fun x => by rw [Bool.eq_iff_iff, beq_iff_eq, beq_iff_eq]; exact eq_comm
  cases h with
  | c0 h => exact ⟨rfl, by rw [ok0 (by omega)]; show _ = (_ && _ && ((0 : Int) == a && (0 : Int) == b)); rw [e0 a, e0 b]⟩
  | c1 h => exact ⟨rfl, by rw [ok1 (by omega)]; show _ = (_ && _ && (a == a && (0 : Int) == b)); rw [e0 b]; simp⟩
  | c2 h => exact ⟨rfl, by subst h; rw [ok2]; simp [evO]⟩
  | t h => exact ⟨h.symm, by rw [ok0 (by omega)]; show _ = (_ && _ && ((0 : Int) == a && (0 : Int) == b)); rw [e0 a, e0 b]⟩
  | b h => exact ⟨h.symm, by rw [ok1 (by omega)]; show _ = (_ && _ && (a == a && (0 : Int) == b)); rw [e0 b]; simp⟩
  | p h =>
    refine ⟨h.symm, ?_⟩
    subst h
    rw [ok3]
    show _ = (_ && _ && ((if (a == 1) = true then (1 : Int) else 0) == a && (0 : Int) == b))
    rw [e0 b]
    by_cases h0 : 0 ≤ a
    · have : ((if (a == 1) = true then (1 : Int) else 0) == a) = decide (a ≤ 1) := by
        by_cases h1 : a = 1
        · simp [h1]
        · by_cases h2 : a = 0
          · simp [h2]
          · have hn : ¬ a ≤ 1 := by omega
            have hz : ¬ (0 : Int) = a := by omega
            simp [h1, hn, hz]
      rw [this, Bool.and_comm (b == 0)]
    · have : inB a 0 1000000 = false := by simp [inB]; omega
      simp [this]
  | n h => exact absurd rfl hn
theorem Own.box0 (w : World) (cs : Array Value) (t : TypeId) : ∀ o, (w.alloc (.cells cs t)).cell? ⟨w.heap.size, o, none⟩ = cs[o]? := fun o => by simp
set_option maxRecDepth 4000 in
set_option maxHeartbeats 8000000 in
theorem implOrderOk_any (k a b : Int) (w : World) : Calls Tryz.prog 87 #[.agg (ordC k a b)] w fun e w' => e = .returned (.bool (orderOkB k a b)) ∧ Below w.heap.size w w' := by
  obtain ⟨ans, hans⟩ : ∃ ans, orderOkB k a b = ans := ⟨_, rfl⟩
  rw [hans]
  have HANS := Lib.hid hans
  clear hans
  have h1 : ∀ (k a b : Int) (w : World), (method 413 128 (.agg (ordC k a b)) "loop.example/g00767/impl.order").run Tryz.prog w = .ok (271, .agg (ordC k a b)) w := fun _ _ _ _ => by kernel_rfl
  have h2 : ∀ (w : World), (method 413 130 (.agg #[]) "loop.example/g00767/impl.order").run Tryz.prog w = .ok (272, .agg #[]) w := fun _ => by kernel_rfl
  have h3 : ∀ (a : Int) (w : World), (method 413 132 (.agg #[.int .i64 a]) "loop.example/g00767/impl.order").run Tryz.prog w = .ok (273, .agg #[.int .i64 a]) w := fun _ _ => by kernel_rfl
  have h4 : ∀ (g : Bool) (w : World), (method 413 134 (.agg #[.bool g]) "loop.example/g00767/impl.order").run Tryz.prog w = .ok (274, .agg #[.bool g]) w := fun _ _ => by kernel_rfl
  have K0 := (Below.refl w.heap.size w).alloc (Nat.le_refl _) (.cells (ordC k a b) 70)
  have C0 := Own.box0 w (ordC k a b) 70
  go_enter Tryz.func87, Tryz.ntmps87
  go_wp2_with fail
  refine (eventOf_any k a b _).mono ?_
  rintro e w1 ⟨v, hv, rfl, hb⟩
  have C1 : ∀ o, w1.cell? ⟨w.heap.size, o, none⟩ = (ordC k a b)[o]? := fun o => (hb.cell (p := ⟨w.heap.size, o, none⟩) (by simp)).trans (C0 o)
  have K1 := K0.trans (hb.mono K0.size)
  have hlt : w.heap.size < w1.heap.size := Nat.lt_of_lt_of_le (by simp) hb.size
  clear hb K0 C0
  cases v with
  | none =>
    have h0 : orderOkB k a b = false := by
      cases hv with
      | n h =>
        have : inB k 1 13 = false := by simp [inB]; omega
        simp [orderOkB, this]
    unfold evV
    dsimp only
    go_wp2
    go_ret
    exact ⟨ret_bool (by rw [← HANS.out, h0]), K1⟩
  | cmd x y z =>
    obtain ⟨hk, hq⟩ := evOf_ok hv (by simp)
    dsimp only [evO] at hk hq
    subst hk
    have HQ := Lib.hid hq
    clear hq hv
    unfold evV
    dsimp only
    cases ha : inB a 0 1000000
    · have HA := Lib.hid ha
      clear ha
      go_wp2_with (go_at_call 125; refine (within_any _ _ _ _).mono ?_; rintro e w' ⟨rfl, rfl⟩; first | rw [HA.out] | rw [HB.out])
      go_ret
      exact ⟨ret_bool (by rw [← HANS.out, HQ.out, HA.out]; rfl), K1⟩
    · have HA := Lib.hid ha
      clear ha
      cases hb : inB b 0 1000000
      · have HB := Lib.hid hb
        clear hb
        go_wp2_with (go_at_call 125; refine (within_any _ _ _ _).mono ?_; rintro e w' ⟨rfl, rfl⟩; first | rw [HA.out] | rw [HB.out])
        go_ret
        exact ⟨ret_bool (by rw [← HANS.out, HQ.out, HA.out, HB.out]; rfl), K1⟩
      · have HB := Lib.hid hb
        clear hb
        go_wp2_with (go_at_call 125; refine (within_any _ _ _ _).mono ?_; rintro e w' ⟨rfl, rfl⟩; first | rw [HA.out] | rw [HB.out])
        obtain ⟨yy, hy⟩ : ∃ yy, y = yy := ⟨_, rfl⟩
        obtain ⟨zz, hz⟩ : ∃ zz, z = zz := ⟨_, rfl⟩
        have HY := Lib.hid hy
        have HZ := Lib.hid hz
        have HQ2 : Hid (ans = (yy == a && zz == b)) := Lib.hid (by rw [← hy, ← hz, ← HANS.out, HQ.out, HA.out, HB.out]; rfl)
        clear HQ HANS hy hz
        have C2 : ∀ (W : World), Below w1.heap.size w1.drew W → ∀ o, W.cell? ⟨w.heap.size, o, none⟩ = (ordC x a b)[o]? := fun W hb o => (hb.cell (p := ⟨w.heap.size, o, none⟩) hlt).trans (C1 o)
        have C2 := Lib.hid C2
        cases e1 : (yy == a) <;> cases e2 : (zz == b)
        all_goals
          have S0 : (∀ o, w1.cell? ⟨w.heap.size, o, none⟩ = (ordC x a b)[o]?) ∧ Below w.heap.size w w1 := ⟨C1, K1⟩
          go_region_held3 (fun W => (∀ o, W.cell? ⟨w.heap.size, o, none⟩ = (ordC x a b)[o]?) ∧ Below w.heap.size w W)
            (first | exact S0 | exact S1 | exact ⟨S0.1, S0.2.drew⟩)
            (first | (go_at_call 271
                      refine (cmdOrder_yz _ _ _ _ _ HY.out HZ.out _).mono ?_
                      rintro e w2 ⟨rfl, hb⟩
                      have K2 := S0.2.drew.trans (hb.mono S0.2.drew.size)
                      have S1 : (∀ o, w2.cell? ⟨w.heap.size, o, none⟩ = (ordC x a b)[o]?) ∧ Below w.heap.size w w2 := ⟨C2.out w2 hb, K2⟩))
          go_wp2
          go_ret
          exact ⟨ret_bool (by rw [HQ2.out, e1, e2]; rfl), K2⟩
  | tick =>
    obtain ⟨hk, hq⟩ := evOf_ok hv (by simp)
    dsimp only [evO] at hk hq
    subst hk
    have HQ := Lib.hid hq
    clear hq hv
    unfold evV
    dsimp only
    cases ha : inB a 0 1000000
    · have HA := Lib.hid ha
      clear ha
      go_wp2_with (go_at_call 125; refine (within_any _ _ _ _).mono ?_; rintro e w' ⟨rfl, rfl⟩; first | rw [HA.out] | rw [HB.out])
      go_ret
      exact ⟨ret_bool (by rw [← HANS.out, HQ.out, HA.out]; rfl), K1⟩
    · have HA := Lib.hid ha
      clear ha
      cases hb : inB b 0 1000000
      · have HB := Lib.hid hb
        clear hb
        go_wp2_with (go_at_call 125; refine (within_any _ _ _ _).mono ?_; rintro e w' ⟨rfl, rfl⟩; first | rw [HA.out] | rw [HB.out])
        go_ret
        exact ⟨ret_bool (by rw [← HANS.out, HQ.out, HA.out, HB.out]; rfl), K1⟩
      · have HB := Lib.hid hb
        clear hb
        go_wp2_with (go_at_call 125; refine (within_any _ _ _ _).mono ?_; rintro e w' ⟨rfl, rfl⟩; first | rw [HA.out] | rw [HB.out])
        obtain ⟨yy, hy⟩ : ∃ yy, (0 : Int) = yy := ⟨_, rfl⟩
        obtain ⟨zz, hz⟩ : ∃ zz, (0 : Int) = zz := ⟨_, rfl⟩
        have HY := Lib.hid hy
        have HZ := Lib.hid hz
        have HQ2 : Hid (ans = (yy == a && zz == b)) := Lib.hid (by rw [← hy, ← hz, ← HANS.out, HQ.out, HA.out, HB.out]; rfl)
        clear HQ HANS hy hz
        have C2 : ∀ (W : World), Below w1.heap.size w1.drew W → ∀ o, W.cell? ⟨w.heap.size, o, none⟩ = (ordC 11 a b)[o]? := fun W hb o => (hb.cell (p := ⟨w.heap.size, o, none⟩) hlt).trans (C1 o)
        have C2 := Lib.hid C2
        cases e1 : (yy == a) <;> cases e2 : (zz == b)
        all_goals
          have S0 : (∀ o, w1.cell? ⟨w.heap.size, o, none⟩ = (ordC 11 a b)[o]?) ∧ Below w.heap.size w w1 := ⟨C1, K1⟩
          go_region_held3 (fun W => (∀ o, W.cell? ⟨w.heap.size, o, none⟩ = (ordC 11 a b)[o]?) ∧ Below w.heap.size w W)
            (first | exact S0 | exact S1 | exact ⟨S0.1, S0.2.drew⟩)
            (first | (go_at_call 272
                      refine (tickOrder_yz _ _ HY.out HZ.out _).mono ?_
                      rintro e w2 ⟨rfl, hb⟩
                      have K2 := S0.2.drew.trans (hb.mono S0.2.drew.size)
                      have S1 : (∀ o, w2.cell? ⟨w.heap.size, o, none⟩ = (ordC 11 a b)[o]?) ∧ Below w.heap.size w w2 := ⟨C2.out w2 hb, K2⟩))
          go_wp2
          go_ret
          exact ⟨ret_bool (by rw [HQ2.out, e1, e2]; rfl), K2⟩
  | boot x =>
    obtain ⟨hk, hq⟩ := evOf_ok hv (by simp)
    dsimp only [evO] at hk hq
    subst hk
    have HQ := Lib.hid hq
    clear hq hv
    unfold evV
    dsimp only
    cases ha : inB a 0 1000000
    · have HA := Lib.hid ha
      clear ha
      go_wp2_with (go_at_call 125; refine (within_any _ _ _ _).mono ?_; rintro e w' ⟨rfl, rfl⟩; first | rw [HA.out] | rw [HB.out])
      go_ret
      exact ⟨ret_bool (by rw [← HANS.out, HQ.out, HA.out]; rfl), K1⟩
    · have HA := Lib.hid ha
      clear ha
      cases hb : inB b 0 1000000
      · have HB := Lib.hid hb
        clear hb
        go_wp2_with (go_at_call 125; refine (within_any _ _ _ _).mono ?_; rintro e w' ⟨rfl, rfl⟩; first | rw [HA.out] | rw [HB.out])
        go_ret
        exact ⟨ret_bool (by rw [← HANS.out, HQ.out, HA.out, HB.out]; rfl), K1⟩
      · have HB := Lib.hid hb
        clear hb
        go_wp2_with (go_at_call 125; refine (within_any _ _ _ _).mono ?_; rintro e w' ⟨rfl, rfl⟩; first | rw [HA.out] | rw [HB.out])
        obtain ⟨yy, hy⟩ : ∃ yy, x = yy := ⟨_, rfl⟩
        obtain ⟨zz, hz⟩ : ∃ zz, (0 : Int) = zz := ⟨_, rfl⟩
        have HY := Lib.hid hy
        have HZ := Lib.hid hz
        have HQ2 : Hid (ans = (yy == a && zz == b)) := Lib.hid (by rw [← hy, ← hz, ← HANS.out, HQ.out, HA.out, HB.out]; rfl)
        clear HQ HANS hy hz
        have C2 : ∀ (W : World), Below w1.heap.size w1.drew W → ∀ o, W.cell? ⟨w.heap.size, o, none⟩ = (ordC 12 a b)[o]? := fun W hb o => (hb.cell (p := ⟨w.heap.size, o, none⟩) hlt).trans (C1 o)
        have C2 := Lib.hid C2
        cases e1 : (yy == a) <;> cases e2 : (zz == b)
        all_goals
          have S0 : (∀ o, w1.cell? ⟨w.heap.size, o, none⟩ = (ordC 12 a b)[o]?) ∧ Below w.heap.size w w1 := ⟨C1, K1⟩
          go_region_held3 (fun W => (∀ o, W.cell? ⟨w.heap.size, o, none⟩ = (ordC 12 a b)[o]?) ∧ Below w.heap.size w W)
            (first | exact S0 | exact S1 | exact ⟨S0.1, S0.2.drew⟩)
            (first | (go_at_call 273
                      refine (bootOrder_yz _ _ _ HY.out HZ.out _).mono ?_
                      rintro e w2 ⟨rfl, hb⟩
                      have K2 := S0.2.drew.trans (hb.mono S0.2.drew.size)
                      have S1 : (∀ o, w2.cell? ⟨w.heap.size, o, none⟩ = (ordC 12 a b)[o]?) ∧ Below w.heap.size w w2 := ⟨C2.out w2 hb, K2⟩))
          go_wp2
          go_ret
          exact ⟨ret_bool (by rw [HQ2.out, e1, e2]; rfl), K2⟩
  | probe g =>
    obtain ⟨hk, hq⟩ := evOf_ok hv (by simp)
    dsimp only [evO] at hk hq
    subst hk
    have HQ := Lib.hid hq
    clear hq hv
    unfold evV
    dsimp only
    cases ha : inB a 0 1000000
    · have HA := Lib.hid ha
      clear ha
      go_wp2_with (go_at_call 125; refine (within_any _ _ _ _).mono ?_; rintro e w' ⟨rfl, rfl⟩; first | rw [HA.out] | rw [HB.out])
      go_ret
      exact ⟨ret_bool (by rw [← HANS.out, HQ.out, HA.out]; rfl), K1⟩
    · have HA := Lib.hid ha
      clear ha
      cases hb : inB b 0 1000000
      · have HB := Lib.hid hb
        clear hb
        go_wp2_with (go_at_call 125; refine (within_any _ _ _ _).mono ?_; rintro e w' ⟨rfl, rfl⟩; first | rw [HA.out] | rw [HB.out])
        go_ret
        exact ⟨ret_bool (by rw [← HANS.out, HQ.out, HA.out, HB.out]; rfl), K1⟩
      · have HB := Lib.hid hb
        clear hb
        go_wp2_with (go_at_call 125; refine (within_any _ _ _ _).mono ?_; rintro e w' ⟨rfl, rfl⟩; first | rw [HA.out] | rw [HB.out])
        obtain ⟨yy, hy⟩ : ∃ yy, (if g = true then 1 else 0 : Int) = yy := ⟨_, rfl⟩
        obtain ⟨zz, hz⟩ : ∃ zz, (0 : Int) = zz := ⟨_, rfl⟩
        have HY := Lib.hid hy
        have HZ := Lib.hid hz
        have HQ2 : Hid (ans = (yy == a && zz == b)) := Lib.hid (by rw [← hy, ← hz, ← HANS.out, HQ.out, HA.out, HB.out]; rfl)
        clear HQ HANS hy hz
        have C2 : ∀ (W : World), Below w1.heap.size w1.drew W → ∀ o, W.cell? ⟨w.heap.size, o, none⟩ = (ordC 13 a b)[o]? := fun W hb o => (hb.cell (p := ⟨w.heap.size, o, none⟩) hlt).trans (C1 o)
        have C2 := Lib.hid C2
        cases e1 : (yy == a) <;> cases e2 : (zz == b)
        all_goals
          have S0 : (∀ o, w1.cell? ⟨w.heap.size, o, none⟩ = (ordC 13 a b)[o]?) ∧ Below w.heap.size w w1 := ⟨C1, K1⟩
          go_region_held3 (fun W => (∀ o, W.cell? ⟨w.heap.size, o, none⟩ = (ordC 13 a b)[o]?) ∧ Below w.heap.size w W)
            (first | exact S0 | exact S1 | exact ⟨S0.1, S0.2.drew⟩)
            (first | (go_at_call 274
                      refine (probeOrder_yz _ _ _ HY.out HZ.out _).mono ?_
                      rintro e w2 ⟨rfl, hb⟩
                      have K2 := S0.2.drew.trans (hb.mono S0.2.drew.size)
                      have S1 : (∀ o, w2.cell? ⟨w.heap.size, o, none⟩ = (ordC 13 a b)[o]?) ∧ Below w.heap.size w w2 := ⟨C2.out w2 hb, K2⟩))
          go_wp2
          go_ret
          exact ⟨ret_bool (by rw [HQ2.out, e1, e2]; rfl), K2⟩
end Go.Proofs.YtdphpjnecjofeaaGreatDoor
