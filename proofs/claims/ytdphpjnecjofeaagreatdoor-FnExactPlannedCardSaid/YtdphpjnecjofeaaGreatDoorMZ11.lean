/-
  Chapter 10's reasons as values; errors.As and errors.Is of a refusal that wraps one of them.
-/
import Derived.Test.YtdphpjnecjofeaaGreatDoorMZ0
import Derived.RegionTactic
import Derived.BigRegion
import Derived.Test.YtdphpjnecjofeaaGreatDoorMZ10
import Derived.WalkKit
import Derived.LaidEql
import Derived.Stop.Asserts
import Derived.RowKitTokens
import Derived.Lib.Hide
/- A4 -/
set_option linter.unusedVariables false
namespace Go.Proofs.YtdphpjnecjofeaaGreatDoor
open Go.RowKit

/-- The bytes that came in, below block B. -/
def Bytes (w : World) (B : Nat) (A : Option Addr) (n : Nat) : Prop :=
  0 < n → ∃ b off, A = some ⟨b, off, none⟩ ∧ b < B ∧ ∀ j, j < n → ∃ z : Int, w.cell? ⟨b, off + j, none⟩ = some (.int .u8 z) ∧ 0 ≤ z ∧ z ≤ 255
/-- The cells of a cursor: the bytes, how many are used, a number. -/
abbrev curC (k : IntKind) (A : Option Addr) (n c : Nat) (i h : Int) : Array Value := #[.slice A n c, .int .i64 i, .int k h]
/-- A cursor at block g, of type T, over bytes below block B. -/
structure Cur (T : TypeId) (k : IntKind) (w : World) (g : Nat) : Prop where
  it : ∃ A n c i h, w.heap[g]? = some (.cells (curC k A n c i h) T (0, 0)) ∧ 0 ≤ i ∧ i ≤ (n : Int) ∧ n ≤ 4096 ∧ Bytes w g A n
theorem Bytes.below {w w' : World} {B B' n : Nat} {A : Option Addr} (h : Bytes w B A n) (hb : Below B' w w') (hB : B ≤ B') : Bytes w' B A n := fun hn => by
  obtain ⟨b, off, rfl, hlt, hc⟩ := h hn
  exact ⟨b, off, rfl, hlt, fun j hj => by obtain ⟨z, hz, hr⟩ := hc j hj; exact ⟨z, (hb.cell (p := ⟨b, off + j, none⟩) (by show b < B'; omega)).trans hz, hr⟩⟩
theorem Cur.of {T : TypeId} {k : IntKind} {w w' : World} {g : Nat} {A : Option Addr} {n c : Nat} {i h : Int} (hB : Bytes w g A n) (hm : n ≤ 4096) (hk : Keeps (· = g) w w') (hgs : g < w.heap.size)
    (hg : w'.heap[g]? = some (.cells (curC k A n c i h) T (0, 0))) (i0 : 0 ≤ i) (i1 : i ≤ (n : Int)) : Cur T k w' g :=
  ⟨A, n, c, i, h, hg, i0, i1, hm, hB.below (hk.below (B := g) (by omega) (fun b hb e => by omega)) (Nat.le_refl _)⟩
theorem Bytes.more {w : World} {B B' n : Nat} {A : Option Addr} (h : Bytes w B A n) (hB : B ≤ B') : Bytes w B' A n := fun hn => by
  obtain ⟨b, off, e, hlt, hc⟩ := h hn
  exact ⟨b, off, e, by omega, hc⟩

end Go.Proofs.YtdphpjnecjofeaaGreatDoor
/- A5 -/
set_option linter.unusedVariables false
namespace Go.Proofs.YtdphpjnecjofeaaGreatDoor
open Go.RowKit

theorem Cur.lt {T : TypeId} {k : IntKind} {w : World} {g : Nat} (h : Cur T k w g) : g < w.heap.size := by
  obtain ⟨A, n, c, i, hh, hg, _⟩ := h
  exact (Array.getElem?_eq_some_iff.1 hg).1
theorem Cur.keeps {T : TypeId} {k : IntKind} {S : Nat → Prop} {w w' : World} {g : Nat} (h : Cur T k w g) (kk : Keeps S w w') (hn : ∀ b, b ≤ g → ¬ S b) : Cur T k w' g := by
  have hlt := h.lt
  obtain ⟨A, n, c, i, hh, hg, i0, i1, hm, hB⟩ := h
  exact ⟨A, n, c, i, hh, (kk.block g hlt (hn g (Nat.le_refl _))).trans hg, i0, i1, hm, hB.below (kk.below (B := g) (by omega) (fun b hb => hn b (by omega))) (Nat.le_refl _)⟩
theorem Cur.below {T : TypeId} {k : IntKind} {w w' : World} {g : Nat} (h : Cur T k w g) (hb : Below w.heap.size w w') : Cur T k w' g :=
  h.keeps (S := fun _ => False) (Keeps.of_below hb) (fun _ _ => id)
theorem l1Min_any (a b : Int) (w : World) : Calls Tryz.prog 129 #[.int .i64 a, .int .i64 b] w fun e w' => e = .returned (.int .i64 (if a < b then a else b)) ∧ w = w' := by
  by_cases h : a < b
  · go_enter Tryz.func129, Tryz.ntmps129
    go_wp2_with fail
    go_ret
    exact ⟨ret_int rfl, rfl⟩
  · go_enter Tryz.func129, Tryz.ntmps129
    go_wp2_with fail
    go_ret
    exact ⟨ret_int rfl, rfl⟩
end Go.Proofs.YtdphpjnecjofeaaGreatDoor
/- Wi -/
set_option linter.unusedVariables false
namespace Go.Proofs.YtdphpjnecjofeaaGreatDoor
open Go.RowKit

theorem size_ok {d : PlanD} (h : planOkB d = true) : d.n0 ≤ 12 ∧ d.n1 ≤ 4 ∧ d.n2 ≤ 12 ∧ d.n3 ≤ 12 := by
  simp only [planOkB, sizesB, Bool.and_eq_true, decide_eq_true_eq] at h
  omega
theorem times_ok {d : PlanD} (h : planOkB d = true) : (0 ≤ d.l ∧ d.l ≤ 500) ∧ (1 ≤ d.p ∧ d.p ≤ 9) ∧ (d.p ≤ d.t ∧ d.t ≤ 30) := by
  simp only [planOkB, timesB, Bool.and_eq_true, inB_true] at h
  omega
set_option maxRecDepth 4000 in
set_option maxHeartbeats 4000000 in
theorem l10Shut_any (pv sv : Value) (d : PlanD) (s : StD) (w : World) (hp : IsPlan w w.heap.size pv d) (hs : IsSt w w.heap.size sv s) (hok : StOk d s) :
    Calls Tryz.prog 78 #[pv, sv] w (RecsA w (shutD d s)) := by
  have HP := Lib.hid hp
  have HS := Lib.hid hs
  obtain ⟨⟨P0, P1, P2, P3, k0, k1, k2, k3, rfl, s0, s1, s2, s3⟩, b0, b1, b2, b3⟩ := hp
  obtain ⟨⟨A0, A1, A2, A3, c0, c1, c2, c3, rfl, t0, t1, t2, t3⟩, f0, f1, f2, f3⟩ := hs
  have S0 := Lib.hid s0
  have S1 := Lib.hid s1
  have S2 := Lib.hid s2
  have S3 := Lib.hid s3
  have R0 := Lib.hid t0
  have R1 := Lib.hid t1
  have R2 := Lib.hid t2
  have R3 := Lib.hid t3
  unfold maxLen at b0 b1 b2 b3 f0 f1 f2 f3
  clear s0 s1 s2 s3 t0 t1 t2 t3
  have T0 := Two.start w (planC P0 P1 P2 P3 d.n0 k0 d.n1 k1 d.n2 k2 d.n3 k3 d.l d.p d.t) (stC A0 A1 A2 A3 s.pods.length c0 s.mnts.length c1 s.devs.length c2 s.lks.length c3 s.ph s.co s.ck s.bo s.ba s.lb s.gd s.pr) 47 40
  have OK := Lib.hid hok
  clear hok
  obtain ⟨ans, hans⟩ : ∃ ans, shutD d s = ans := ⟨_, rfl⟩
  rw [hans]
  have HANS := Lib.hid hans
  clear hans
  have hC := T0.A.C
  have hD := T0.O.C
  cases h1 : (s.ph != 1)
  all_goals cases h2 : (s.ph != 2)
  case true.true =>
    have H1 : Hid (¬ (s.ph = 1 ∨ s.ph = 2)) := Lib.hid (by simp at h1 h2; omega)
    go_enter Tryz.func78, Tryz.ntmps78
    go_wp2_with fail
    refine (l10No_any 3 _).mono ?_
    rintro e w9 hR
    obtain ⟨v9, rfl, O9, K9⟩ := hR.back T0.A.K
    go_wp2
    all_goals (go_ret2; rw [← HANS.out, shutD, if_neg H1.out]; exact ⟨v9, rfl, O9, K9⟩)
  all_goals
    have H1 : Hid (s.ph = 1 ∨ s.ph = 2) := Lib.hid (by simp at h1 h2; omega)
    go_enter Tryz.func78, Tryz.ntmps78
    go_wp2_with fail
    refine (specNext_any _ d _ _ ((HP.out.below T0.A.K (Nat.le_refl _)).more T0.A.K.size) (by have := size_ok OK.out.plan; omega)).mono ?_
    rintro e w1 ⟨rfl, hb⟩
    have T1 := T0.step hb
    clear hb hC hD
    have hC := T1.A.C
    have hD := T1.O.C
    have HB : Hid (nextB d (-1) = if nextL d (-1) < 0 then 6 else nextL d (-1)) := Lib.hid rfl
    have hck := OK.out.ck
    have htm := (times_ok OK.out.plan).1
    generalize nextL d (-1) = nb at HB ⊢
    by_cases hnb : nb < 0
    · have HN := Lib.hid hnb
      go_wp2_with fail
      refine (l1Min_any _ _ _).mono ?_
      rintro e w2 ⟨rfl, rfl⟩
      have HM : Hid ((if s.ck + d.l < 1000000 then s.ck + d.l else 1000000) = min (s.ck + d.l) 1000000) := Lib.hid (by split <;> omega)
      rw [HM.out]
      go_wp2
      all_goals (go_ret2; rw [← HANS.out, shutD, if_pos H1.out, HB.out, if_pos (by have := HN.out; omega)]; exact ⟨_, rfl, own_of_heap (heap_alloc_new w1 _) rfl rfl T1.A.K.size (by unfold maxLen; decide), T1.A.K.alloc T1.A.K.size _⟩)
    · have HN := Lib.hid hnb
      go_wp2_with fail
      refine (l1Min_any _ _ _).mono ?_
      rintro e w2 ⟨rfl, rfl⟩
      have HM : Hid ((if s.ck + d.l < 1000000 then s.ck + d.l else 1000000) = min (s.ck + d.l) 1000000) := Lib.hid (by split <;> omega)
      rw [HM.out]
      go_wp2
      all_goals (go_ret2; rw [← HANS.out, shutD, if_pos H1.out, HB.out, if_neg (by have := HN.out; omega)]; exact ⟨_, rfl, own_of_heap (heap_alloc_new w1 _) rfl rfl T1.A.K.size (by unfold maxLen; decide), T1.A.K.alloc T1.A.K.size _⟩)

set_option maxRecDepth 4000 in
set_option maxHeartbeats 8000000 in
theorem commanded_any (pv sv : Value) (d : PlanD) (s : StD) (k a b : Int) (w : World) (hp : IsPlan w w.heap.size pv d) (hs : IsSt w w.heap.size sv s) :
    Calls Tryz.prog 25 #[pv, sv, .int .i64 k, .int .i64 a, .int .i64 b] w (RecsA w (if stOkB d s then commandD d s k a b else noR 1)) := by
  have HP := Lib.hid hp
  have HS := Lib.hid hs
  obtain ⟨⟨P0, P1, P2, P3, k0, k1, k2, k3, rfl, s0, s1, s2, s3⟩, b0, b1, b2, b3⟩ := hp
  obtain ⟨⟨A0, A1, A2, A3, c0, c1, c2, c3, rfl, t0, t1, t2, t3⟩, f0, f1, f2, f3⟩ := hs
  have S0 := Lib.hid s0
  have S1 := Lib.hid s1
  have S2 := Lib.hid s2
  have S3 := Lib.hid s3
  have R0 := Lib.hid t0
  have R1 := Lib.hid t1
  have R2 := Lib.hid t2
  have R3 := Lib.hid t3
  unfold maxLen at b0 b1 b2 b3 f0 f1 f2 f3
  clear s0 s1 s2 s3 t0 t1 t2 t3
  have T0 := Two.start w (planC P0 P1 P2 P3 d.n0 k0 d.n1 k1 d.n2 k2 d.n3 k3 d.l d.p d.t) (stC A0 A1 A2 A3 s.pods.length c0 s.mnts.length c1 s.devs.length c2 s.lks.length c3 s.ph s.co s.ck s.bo s.ba s.lb s.gd s.pr) 47 40
  obtain ⟨ans, hans⟩ : ∃ ans, (if stOkB d s then commandD d s k a b else noR 1) = ans := ⟨_, rfl⟩
  rw [hans]
  have HANS := Lib.hid hans
  clear hans
  go_enter Tryz.func25, Tryz.ntmps25
  go_wp2_with fail
  refine (specStateOk_any _ _ d s _ ((HP.out.below T0.A.K (Nat.le_refl _)).more T0.A.K.size) ((HS.out.below T0.A.K (Nat.le_refl _)).more T0.A.K.size)).mono ?_
  rintro e w1 ⟨rfl, hb⟩
  have T1 := T0.step hb
  have hC := T1.A.C
  have hD := T1.O.C
  clear hb T0
  cases hok : stOkB d s
  · have OKB : Hid (¬ stOkB d s = true) := Lib.hid (by rw [hok]; decide)
    clear hok
    go_wp2_with fail
    refine (l10No_any 1 _).mono ?_
    rintro e w9 hR
    obtain ⟨v9, rfl, O9, K9⟩ := hR.back T1.A.K
    go_wp2
    all_goals (go_ret2; rw [← HANS.out, if_neg OKB.out]; exact ⟨v9, rfl, O9, K9⟩)
  · have OK := Lib.hid (stOkB_iff.1 hok)
    have HANS2 : Hid (ans = commandD d s k a b) := Lib.hid (by rw [← HANS.out, if_pos hok])
    clear hok HANS
    by_cases e1 : k = 1
    · subst e1
      have HX : Hid (commandD d s 1 a b = phaseD s 0 1) := Lib.hid (by simp [commandD])
      go_wp2_with fail
      refine (l10Phase_any _ s 0 1 _ ((HS.out.below T1.A.K (Nat.le_refl _)).more T1.A.K.size)).mono ?_
      rintro e w9 hR
      obtain ⟨v9, rfl, O9, K9⟩ := hR.back T1.A.K
      go_wp2
      all_goals (go_ret2; rw [HANS2.out, HX.out]; exact ⟨v9, rfl, O9, K9⟩)
    · have E1 := Lib.hid e1
      by_cases e2 : k = 2
      · subst e2
        have HX : Hid (commandD d s 2 a b = phaseD s 1 2) := Lib.hid (by simp [commandD])
        go_wp2_with fail
        refine (l10Phase_any _ s 1 2 _ ((HS.out.below T1.A.K (Nat.le_refl _)).more T1.A.K.size)).mono ?_
        rintro e w9 hR
        obtain ⟨v9, rfl, O9, K9⟩ := hR.back T1.A.K
        go_wp2
        all_goals (go_ret2; rw [HANS2.out, HX.out]; exact ⟨v9, rfl, O9, K9⟩)
      · have E2 := Lib.hid e2
        by_cases e3 : k = 3
        · subst e3
          have HX : Hid (commandD d s 3 a b = evictD d s a) := Lib.hid (by simp [commandD])
          go_wp2_with fail
          refine (l10Evict_any _ _ d s a _ ((HP.out.below T1.A.K (Nat.le_refl _)).more T1.A.K.size) ((HS.out.below T1.A.K (Nat.le_refl _)).more T1.A.K.size) OK.out).mono ?_
          rintro e w9 hR
          obtain ⟨v9, rfl, O9, K9⟩ := hR.back T1.A.K
          go_wp2
          all_goals (go_ret2; rw [HANS2.out, HX.out]; exact ⟨v9, rfl, O9, K9⟩)
        · have E3 := Lib.hid e3
          by_cases e4 : k = 4
          · subst e4
            have HX : Hid (commandD d s 4 a b = shutD d s) := Lib.hid (by simp [commandD])
            go_wp2_with fail
            refine (l10Shut_any _ _ d s _ ((HP.out.below T1.A.K (Nat.le_refl _)).more T1.A.K.size) ((HS.out.below T1.A.K (Nat.le_refl _)).more T1.A.K.size) OK.out).mono ?_
            rintro e w9 hR
            obtain ⟨v9, rfl, O9, K9⟩ := hR.back T1.A.K
            go_wp2
            all_goals (go_ret2; rw [HANS2.out, HX.out]; exact ⟨v9, rfl, O9, K9⟩)
          · have E4 := Lib.hid e4
            by_cases e5 : k = 5
            · subst e5
              cases h5 : (s.ph == 2)
              · have H5 : Hid (¬ s.ph = 2) := Lib.hid (by simpa using h5)
                have HX : Hid (commandD d s 5 a b = phaseD s 1 0) := Lib.hid (by simp [commandD, cancelD, H5.out])
                go_wp2_with fail
                refine (l10Phase_any _ s 1 0 _ ((HS.out.below T1.A.K (Nat.le_refl _)).more T1.A.K.size)).mono ?_
                rintro e w9 hR
                obtain ⟨v9, rfl, O9, K9⟩ := hR.back T1.A.K
                go_wp2
                all_goals (go_ret2; rw [HANS2.out, HX.out]; exact ⟨v9, rfl, O9, K9⟩)
              · have H5 : Hid (s.ph = 2) := Lib.hid (by simpa using h5)
                have HX : Hid (commandD d s 5 a b = oneR 1 0 0) := Lib.hid (by simp [commandD, cancelD, H5.out])
                go_wp2_with fail
                refine (l10One_any 1 0 0 _).mono ?_
                rintro e w9 hR
                obtain ⟨v9, rfl, O9, K9⟩ := hR.back T1.A.K
                go_wp2
                all_goals (go_ret2; rw [HANS2.out, HX.out]; exact ⟨v9, rfl, O9, K9⟩)
            · have E5 := Lib.hid e5
              by_cases e6 : k = 6
              · subst e6
                have HX : Hid (commandD d s 6 a b = lockD s a) := Lib.hid (by simp [commandD])
                go_wp2_with fail
                refine (l10Lock_any _ s a _ ((HS.out.below T1.A.K (Nat.le_refl _)).more T1.A.K.size)).mono ?_
                rintro e w9 hR
                obtain ⟨v9, rfl, O9, K9⟩ := hR.back T1.A.K
                go_wp2
                all_goals (go_ret2; rw [HANS2.out, HX.out]; exact ⟨v9, rfl, O9, K9⟩)
              · have E6 := Lib.hid e6
                by_cases e7 : k = 7
                · subst e7
                  have HX : Hid (commandD d s 7 a b = unlockD s a) := Lib.hid (by simp [commandD])
                  go_wp2_with fail
                  refine (l10Unlock_any _ s a _ ((HS.out.below T1.A.K (Nat.le_refl _)).more T1.A.K.size)).mono ?_
                  rintro e w9 hR
                  obtain ⟨v9, rfl, O9, K9⟩ := hR.back T1.A.K
                  go_wp2
                  all_goals (go_ret2; rw [HANS2.out, HX.out]; exact ⟨v9, rfl, O9, K9⟩)
                · have E7 := Lib.hid e7
                  by_cases e8 : k = 8
                  · subst e8
                    have HX : Hid (commandD d s 8 a b = toldD d s afterHook a) := Lib.hid (by simp [commandD])
                    go_wp2_with fail
                    refine (l10Hook_any _ _ d s a _ ((HP.out.below T1.A.K (Nat.le_refl _)).more T1.A.K.size) ((HS.out.below T1.A.K (Nat.le_refl _)).more T1.A.K.size) OK.out).mono ?_
                    rintro e w9 hR
                    obtain ⟨v9, rfl, O9, K9⟩ := hR.back T1.A.K
                    go_wp2
                    all_goals (go_ret2; rw [HANS2.out, HX.out]; exact ⟨v9, rfl, O9, K9⟩)
                  · have E8 := Lib.hid e8
                    by_cases e9 : k = 9
                    · subst e9
                      have HX : Hid (commandD d s 9 a b = toldD d s afterExit a) := Lib.hid (by simp [commandD])
                      go_wp2_with fail
                      refine (l10Exit_any _ _ d s a _ ((HP.out.below T1.A.K (Nat.le_refl _)).more T1.A.K.size) ((HS.out.below T1.A.K (Nat.le_refl _)).more T1.A.K.size) OK.out).mono ?_
                      rintro e w9 hR
                      obtain ⟨v9, rfl, O9, K9⟩ := hR.back T1.A.K
                      go_wp2
                      all_goals (go_ret2; rw [HANS2.out, HX.out]; exact ⟨v9, rfl, O9, K9⟩)
                    · have E9 := Lib.hid e9
                      by_cases e10 : k = 10
                      · subst e10
                        have HX : Hid (commandD d s 10 a b = busyD d s a b) := Lib.hid (by simp [commandD])
                        go_wp2_with fail
                        refine (l10Busy_any _ _ d s a b _ ((HP.out.below T1.A.K (Nat.le_refl _)).more T1.A.K.size) ((HS.out.below T1.A.K (Nat.le_refl _)).more T1.A.K.size) OK.out).mono ?_
                        rintro e w9 hR
                        obtain ⟨v9, rfl, O9, K9⟩ := hR.back T1.A.K
                        go_wp2
                        all_goals (go_ret2; rw [HANS2.out, HX.out]; exact ⟨v9, rfl, O9, K9⟩)
                      · have E10 := Lib.hid e10
                        have HX : Hid (commandD d s k a b = noR 1) := Lib.hid (by simp [commandD, E1.out, E2.out, E3.out, E4.out, E5.out, E6.out, E7.out, E8.out, E9.out, E10.out])
                        go_wp2_with fail
                        refine (l10No_any 1 _).mono ?_
                        rintro e w9 hR
                        obtain ⟨v9, rfl, O9, K9⟩ := hR.back T1.A.K
                        go_wp2
                        all_goals (go_ret2; rw [HANS2.out, HX.out]; exact ⟨v9, rfl, O9, K9⟩)

end Go.Proofs.YtdphpjnecjofeaaGreatDoor
/- Ja -/
set_option linter.unusedVariables false
namespace Go.Proofs.YtdphpjnecjofeaaGreatDoor
open Go.RowKit Go.Extern.Stop Go.Stop Go.Extern

/-- A reason: which of the five, or the number that there is none of. -/
inductive Why where
  | kind | often | phase | state | budget
  | missing (n : Int)
/-- A sentinel at address a. -/
abbrev sentV (a : Addr) : Value := .iface 281 (.pointer (some a))
def whyV (K O P S B : Addr) : Why → Value
  | .kind => sentV K
  | .often => sentV O
  | .phase => sentV P
  | .state => sentV S
  | .budget => sentV B
  | .missing n => .iface 182 (.agg #[.int .i64 n])
def codeW : Why → Int
  | .kind => 1
  | .often => 1
  | .phase => 3
  | .state => 4
  | .budget => 5
  | .missing _ => 2
abbrev refV (k : Int) (r : Value) : Value := .iface 180 (.agg #[.int .i64 k, r])

/-- A package variable that holds a sentinel; the sentinel's own row. -/
def Sent (w : World) (g : Nat) (a : Addr) : Prop := w.cell? ⟨g, 0, none⟩ = some (sentV a) ∧ ∃ c t, w.heap[a.block]? = some (.cells c t (0, 0))
theorem Sent.below {w w' : World} {g : Nat} {a : Addr} (h : Sent w g a) (hb : Below w.heap.size w w') : Sent w' g a := by
  obtain ⟨h1, c, t, h2⟩ := h
  refine ⟨?_, c, t, ?_⟩
  · rw [hb.cell (p := ⟨g, 0, none⟩) (block_lt_of_cell h1)]; exact h1
  · rw [hb.block _ (Array.getElem?_eq_some_iff.1 h2).1]; exact h2
/-- The five sentinels, and the handle of the type error. -/
structure Errs (w : World) (K O P S B : Addr) : Prop where
  k : Sent w 4 K
  o : Sent w 6 O
  p : Sent w 0 P
  s : Sent w 1 S
  b : Sent w 2 B
  et : w.cell? ⟨5, 0, none⟩ = some (.iface 231 (.agg #[.pointer (some ⟨7, 117, none⟩)]))
  ne : (K ≠ P ∧ O ≠ P ∧ S ≠ P ∧ B ≠ P) ∧ (K ≠ S ∧ O ≠ S ∧ P ≠ S ∧ B ≠ S) ∧ (K ≠ B ∧ O ≠ B ∧ P ≠ B ∧ S ≠ B)
theorem Errs.below {w w' : World} {K O P S B : Addr} (h : Errs w K O P S B) (hb : Below w.heap.size w w') : Errs w' K O P S B :=
  ⟨h.k.below hb, h.o.below hb, h.p.below hb, h.s.below hb, h.b.below hb, by rw [hb.cell (p := ⟨5, 0, none⟩) (block_lt_of_cell h.et)]; exact h.et, h.ne⟩

/-! What the runtime's tables say, at this translation's numbers. -/
theorem mDepth (h : Value) (w : World) : (Go.method 413 231 (.agg #[h]) "Kind").run Tryz.prog w = .ok (267, h) w := by kernel_rfl
theorem mElem (h : Value) (w : World) : (Go.method 413 231 (.agg #[h]) "Elem").run Tryz.prog w = .ok (284, .agg #[h]) w := by kernel_rfl
theorem mImpl (h : Value) (w : World) : (Go.method 413 231 (.agg #[h]) "Implements").run Tryz.prog w = .ok (285, .agg #[h]) w := by kernel_rfl
theorem mAssg (h : Value) (w : World) : (Go.method 413 231 (.agg #[h]) "AssignableTo").run Tryz.prog w = .ok (282, .agg #[h]) w := by kernel_rfl
theorem mComp (h : Value) (w : World) : (Go.method 413 231 (.agg #[h]) "Comparable").run Tryz.prog w = .ok (283, .agg #[h]) w := by kernel_rfl
theorem mUnwrap (k : Int) (r : Value) (w : World) : (Go.method 413 180 (.agg #[.int .i64 k, r]) "Unwrap").run Tryz.prog w = .ok (276, .agg #[.int .i64 k, r]) w := by kernel_rfl
/-- The handle of a type. -/
abbrev hT (t : Nat) : Value := .pointer (some ⟨7, t, none⟩)
abbrev tyV (t : Nat) : Value := .iface 231 (.agg #[hT t])
theorem tPtr (v : Value) (w : World) : (ReflectliteType.typeOf #[.iface 281 v]).run Tryz.prog w = .ok (tyV 281) w := by kernel_rfl
theorem tRef (v : Value) (w : World) : (ReflectliteType.typeOf #[.iface 180 v]).run Tryz.prog w = .ok (tyV 180) w := by kernel_rfl
theorem tMis (v : Value) (w : World) : (ReflectliteType.typeOf #[.iface 182 v]).run Tryz.prog w = .ok (tyV 182) w := by kernel_rfl
/-- The model's entry for (rtype).Comparable, by a name that stays shut. -/
noncomputable def compE : Array Value → Sem Value := ReflectliteType.method fun t => do Rtype.noPackHeld "Comparable" t; pure (.bool (← typeInfo t).comparable)
theorem cPtr (w : World) : (compE #[.agg #[hT 281]]).run Tryz.prog w = .ok (.bool true) w := by kernel_rfl
theorem aPtr (w : World) : (ReflectliteType.relation "AssignableTo" ReflectliteType.assignableTo #[.agg #[hT 281], tyV 182]).run Tryz.prog w = .ok (.bool false) w := by kernel_rfl
theorem aRef (w : World) : (ReflectliteType.relation "AssignableTo" ReflectliteType.assignableTo #[.agg #[hT 180], tyV 182]).run Tryz.prog w = .ok (.bool false) w := by kernel_rfl
theorem aMis (w : World) : (ReflectliteType.relation "AssignableTo" ReflectliteType.assignableTo #[.agg #[hT 182], tyV 182]).run Tryz.prog w = .ok (.bool true) w := by kernel_rfl
/-! The three assertions. -/
theorem noAs (t : Nat) (v : Value) (xT : TypeId) (w : World) (ht : t = 281 ∨ t = 180 ∨ t = 182) : (Instr.typeAssert (.iface t v) xT 235 true).run Tryz.prog w = .ok (.tuple #[.nilIface, .bool false]) w := by
  rcases ht with rfl | rfl | rfl <;> exact run_typeAssert_lacksB Tryz.underlying235 (by kernel_rfl) (by kernel_rfl) v xT w
theorem noIs (t : Nat) (v : Value) (xT : TypeId) (w : World) (ht : t = 281 ∨ t = 180 ∨ t = 182) : (Instr.typeAssert (.iface t v) xT 243 true).run Tryz.prog w = .ok (.tuple #[.nilIface, .bool false]) w := by
  rcases ht with rfl | rfl | rfl <;> exact run_typeAssert_lacksB Tryz.underlying243 (by kernel_rfl) (by kernel_rfl) v xT w
theorem noUnwrap (t : Nat) (v : Value) (xT : TypeId) (w : World) (ht : t = 281 ∨ t = 182) : (Instr.typeAssert (.iface t v) xT 238 true).run Tryz.prog w = .ok (.tuple #[.nilIface, .bool false]) w := by
  rcases ht with rfl | rfl <;> exact run_typeAssert_lacksB Tryz.underlying238 (by kernel_rfl) (by kernel_rfl) v xT w
theorem noUnwraps (t : Nat) (v : Value) (xT : TypeId) (w : World) (ht : t = 281 ∨ t = 182) : (Instr.typeAssert (.iface t v) xT 240 true).run Tryz.prog w = .ok (.tuple #[.nilIface, .bool false]) w := by
  rcases ht with rfl | rfl <;> exact run_typeAssert_lacksB Tryz.underlying240 (by kernel_rfl) (by kernel_rfl) v xT w
theorem hasUnwrap (v : Value) (xT : TypeId) (w : World) : (Instr.typeAssert (.iface 180 v) xT 238 true).run Tryz.prog w = .ok (.tuple #[.iface 180 v, .bool true]) w := run_typeAssert_hasB Tryz.underlying238 (by kernel_rfl) v xT w
theorem compPtr : (Tryz.prog.info? 281).map (·.comparable) = some true := by kernel_rfl
theorem sizeStr : (Tryz.prog.info? 301).map (·.size) = some 1 := by kernel_rfl
/-! Values of reflectlite: a pointer to a variable of missing. -/
theorem vPtr (t : Addr) (w : World) : (ReflectliteValue.unpack (.iface 184 (.pointer (some t)))).run Tryz.prog w
    = .ok (.agg #[hT 184, .pointer (some ⟨w.heap.size, 0, none⟩), .int .u64 150]) (w.alloc (.cells #[.pointer (some t)] 184)) := by kernel_rfl
theorem vMis (n : Int) (w : World) : (ReflectliteValue.unpack (.iface 182 (.agg #[.int .i64 n]))).run Tryz.prog w
    = .ok (.agg #[hT 182, .pointer (some ⟨w.heap.size, 0, none⟩), .int .u64 153]) (w.alloc (.cells #[.int .i64 n] 182)) := by kernel_rfl
theorem vType (a : Addr) (w : World) : (ReflectliteValue.methodAny (ReflectliteValue.valueError "reflectlite.Value.Type" 0) (fun t _ _ _ => ReflectliteType.toType t) #[.agg #[hT 184, .pointer (some a), .int .u64 150]]).run Tryz.prog w
    = .ok (tyV 184) w := by kernel_rfl
theorem kPtr (w : World) : ((ReflectliteType.abiMethod fun t => (fun a : Nat => Value.int IntKind.u8 (a : Int)) <$> Rtype.kind t) #[hT 184]).run Tryz.prog w = .ok (.int .u8 22) w := by kernel_rfl
theorem kMis (w : World) : ((ReflectliteType.abiMethod fun t => (fun a : Nat => Value.int IntKind.u8 (a : Int)) <$> Rtype.kind t) #[hT 182]).run Tryz.prog w = .ok (.int .u8 25) w := by kernel_rfl
theorem ePtr (w : World) : (ReflectliteType.method ReflectliteType.elem #[.agg #[hT 184]]).run Tryz.prog w = .ok (tyV 182) w := by kernel_rfl
theorem iMis (w : World) : (ReflectliteType.relation "Implements" ReflectliteType.implements_ #[.agg #[hT 182], tyV 117]).run Tryz.prog w = .ok (.bool true) w := by kernel_rfl

theorem pPtr (a : Addr) (w : World) : (ReflectliteValue.parts (.agg #[hT 184, .pointer (some a), .int .u64 150])).run Tryz.prog w = .ok (some (184, a, 150)) w := by kernel_rfl
theorem pMis (a : Addr) (w : World) : (ReflectliteValue.parts (.agg #[hT 182, .pointer (some a), .int .u64 153])).run Tryz.prog w = .ok (some (182, a, 153)) w := by kernel_rfl
theorem pVar (a : Addr) (w : World) : (ReflectliteValue.parts (.agg #[hT 182, .pointer (some a), .int .u64 409])).run Tryz.prog w = .ok (some (182, a, 409)) w := by kernel_rfl
theorem ePtr? (w : World) : (Rtype.elem? 184).run Tryz.prog w = .ok (some 182) w := by kernel_rfl
theorem mkVar (p : Addr) (w : World) : (ReflectliteValue.mk 182 p ReflectliteValue.flagAddr).run Tryz.prog w = .ok (.agg #[hT 182, .pointer (some p), .int .u64 409]) w := by kernel_rfl
theorem dMis (w : World) : (Rtype.directlyAssignable 182 182).run Tryz.prog w = .ok true w := by kernel_rfl
theorem rl_method (z : Sem Value) (f : TypeId → Addr → Nat → Nat → Sem Value) (v : Value) :
    ReflectliteValue.method z f #[v] = (ReflectliteValue.parts v >>= fun r => match r with | none => z | some (t, a, fl) => f t a fl (fl % 32)) := rfl
theorem isNil_ptr (a p : Addr) (W : World) (ha : W.cell? a = some (.pointer (some p))) :
    (ReflectliteValue.method (ReflectliteValue.valueError "reflectlite.Value.IsNil" 0) ReflectliteValue.isNil #[.agg #[hT 184, .pointer (some a), .int .u64 150]]).run Tryz.prog W = .ok (.bool false) W := by
  rw [rl_method]
  simp only [Sem.run_bind, pPtr, Result.andThen]
  simp [ReflectliteValue.isNil, loadVar, isAgg, underlying, Tryz.underlying184, ha, Result.andThen]
theorem elem_ptr (a p : Addr) (W : World) (ha : W.cell? a = some (.pointer (some p))) :
    (ReflectliteValue.method (ReflectliteValue.valueError "reflectlite.Value.Elem" 0) ReflectliteValue.elem #[.agg #[hT 184, .pointer (some a), .int .u64 150]]).run Tryz.prog W
      = .ok (.agg #[hT 182, .pointer (some p), .int .u64 409]) W := by
  rw [rl_method]
  simp only [Sem.run_bind, pPtr, Result.andThen]
  simp [ReflectliteValue.elem, loadVar, isAgg, underlying, Tryz.underlying184, ha, Result.andThen, ePtr?, mkVar]
theorem load_mis {b : Addr} {n : Int} {W : World} (hb : W.cell? b = some (.int .i64 n)) : (loadVar 182 b).run Tryz.prog W = .ok (.agg #[.int .i64 n]) W := by
  have e : b.add 0 = b := by cases b; simp [Addr.add]
  simp [loadVar, isAgg, underlying, Tryz.underlying182, loadCells, loadCellsFrom, e, hb, Result.andThen]
theorem store_mis {a : Addr} {n : Int} {old : Value} {W : World} (ha : W.cell? a = some old) (hf : W.frozen? a = false) : (storeVar 182 a (.agg #[.int .i64 n])).run Tryz.prog W = .ok () (W.setCell a (.int .i64 n)) := by
  have e : a.add 0 = a := by cases a; simp [Addr.add]
  simp [storeVar, Value.cells, storeCells, e, Result.andThen]
  rw [run_store Tryz.prog W a _ _ (by rfl)]
  simp [ha, hf]
theorem set_parts (v x : Value) : ∃ k : Option (TypeId × Addr × Nat) → Option (TypeId × Addr × Nat) → Sem Value,
    ReflectliteValue.set #[v, x] = (ReflectliteValue.parts v >>= fun p => ReflectliteValue.parts x >>= fun q => k p q) ∧
    ∀ a b n old W, W.cell? b = some (.int .i64 n) → W.cell? a = some old → W.frozen? a = false →
      (k (some (182, a, 409)) (some (182, b, 153))).run Tryz.prog W = .ok (.tuple #[]) (W.setCell a (.int .i64 n)) := by
  refine ⟨_, rfl, fun a b n old W hb ha hf => ?_⟩
  simp [ReflectliteValue.flagAddr, load_mis hb, store_mis ha hf, dMis, Result.andThen]
theorem set_var (ta b : Addr) (n : Int) (old : Value) (W : World) (hb : W.cell? b = some (.int .i64 n)) (ht : W.cell? ta = some old) (hf : W.frozen? ta = false) :
    (ReflectliteValue.set #[.agg #[hT 182, .pointer (some ta), .int .u64 409], .agg #[hT 182, .pointer (some b), .int .u64 153]]).run Tryz.prog W
      = .ok (.tuple #[]) (W.setCell ta (.int .i64 n)) := by
  obtain ⟨k, hk, hz⟩ := set_parts (.agg #[hT 182, .pointer (some ta), .int .u64 409]) (.agg #[hT 182, .pointer (some b), .int .u64 153])
  rw [hk]
  simp only [Sem.run_bind, pVar, pMis, Result.andThen]
  exact hz _ _ _ _ _ hb ht hf
end Go.Proofs.YtdphpjnecjofeaaGreatDoor
