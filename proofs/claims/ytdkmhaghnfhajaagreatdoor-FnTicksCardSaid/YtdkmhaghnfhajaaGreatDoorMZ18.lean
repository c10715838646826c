/-
  Chapter 7 as data, at every number (what is spent may have wrapped around); the model's and the program's.
-/
import Derived.Test.YtdkmhaghnfhajaaGreatDoorMZ0
import Derived.Test.YtdkmhaghnfhajaaGreatDoorMZ1
/- PbG -/
set_option linter.unusedVariables false
namespace Go.Proofs.YtdkmhaghnfhajaaGreatDoor
open Go.RowKit

set_option maxHeartbeats 400000 in
theorem groupOfPod_any (A0 A1 A2 A3 : Option Addr) (n0 c0 n1 c1 n2 c2 n3 c3 : Nat) (l p t : Int) (x0 : Nat → Int) (i : Nat) (w : World)
    (s0 : Sl w w.heap.size 4 A0 n0 x0) (hi : i < n0) (b0 : n0 ≤ maxLen) :
    Calls Tryz.prog 237 #[planV A0 A1 A2 A3 n0 c0 n1 c1 n2 c2 n3 c3 l p t, .int .i64 i] w fun e w' =>
      e = .returned (.int .i64 (x0 (i * 4))) ∧ Below w.heap.size w w' := by
  unfold maxLen at b0
  obtain ⟨b, off, rfl, hb, q0, q1, q2, q3⟩ := s0.cell4 hi
  clear s0
  go_enter Tryz.func237, Tryz.ntmps237
  go_wp2
  go_ret
  exact ⟨rfl, (Below.refl _ _).alloc (Nat.le_refl _) _⟩
end Go.Proofs.YtdkmhaghnfhajaaGreatDoor
/- Pl -/
set_option linter.unusedVariables false
namespace Go.Proofs.YtdkmhaghnfhajaaGreatDoor
open Go.RowKit

theorem enter_groupOfPod (x y : Value) (wr : World) : (callFunc 237 #[x, y]).run Tryz.prog wr = .ok (.enter 237 #[x, y]) wr := by simp [go_sem]
set_option maxRecDepth 100000 in
set_option maxHeartbeats 1000000 in
theorem implPodsIn_any (v : Value) (d : PlanD) (wanted : Int) (w : World) (h : IsPlan w w.heap.size v d) (hn : d.n0 ≤ 1048576) :
    Calls Tryz.prog 233 #[v, .int .i64 wanted] w (Listed w (found d d.n0 (fun i => d.x0 (i * 4)) wanted)) := by
  have P := Lib.hid h
  obtain ⟨⟨A0, A1, A2, A3, c0, c1, c2, c3, rfl, s0, s1, s2, s3⟩, b0, b1, b2, b3⟩ := h
  have S := Lib.hid s0
  have B := Lib.hid b0
  have HN := Lib.hid hn
  clear s0 s1 s2 s3 b0 b1 b2 b3 hn
  go_enter Tryz.func233, Tryz.ntmps233
  go_wp2_with fail
  have X1 := Own.box w (planC A0 A1 A2 A3 d.n0 c0 d.n1 c1 d.n2 c2 d.n3 c3 d.l d.p d.t) 29
  refine (numbersWith_any _ d _ d.n0 (fun i => d.x0 (i * 4)) wanted _ ((P.out.below X1.K (Nat.le_refl _)).more X1.K.size) HN.out enter_groupOfPod ?_).mono ?_
  · exact fun i hi wr hb => groupOfPod_any A0 A1 A2 A3 d.n0 c0 d.n1 c1 d.n2 c2 d.n3 c3 d.l d.p d.t d.x0 i wr ((S.out.below (X1.K.trans (hb.mono X1.K.size)) (Nat.le_refl _)).more (X1.K.trans (hb.mono X1.K.size)).size) hi B.out
  · intro e w2 hL
    obtain ⟨v', rfl, O, K⟩ := hL.back X1.K
    clear hL
    go_wp2_with fail
    go_ret
    exact ⟨_, rfl, O, K⟩

end Go.Proofs.YtdkmhaghnfhajaaGreatDoor
/- Ka -/
set_option linter.unusedVariables false
namespace Go.Proofs.YtdkmhaghnfhajaaGreatDoor
open Go.RowKit

def stepD (hook grace st sp : Int) : Int := if st = 0 then (if 0 < hook then 1 else 2) else if st = 1 then (if hook ≤ sp then 2 else 1) else if st = 2 then (if grace ≤ sp then 3 else 2) else if st = 3 then 4 else st
def hookD (x : Int) : Int := if x = 1 then 2 else -1
def exitD (x : Int) : Int := if x = 0 ∨ x = 1 then 5 else if x = 2 ∨ x = 3 then 4 else -1

set_option maxHeartbeats 1000000 in
theorem implHook_any (x : Int) (w : World) : Calls Tryz.prog 181 #[.int .i64 x] w fun e w' => e = .returned (.int .i64 (hookD x)) ∧ w = w' := by
  have HH : Hid (hookD x = if x = 1 then 2 else -1) := Lib.hid rfl
  by_cases h1 : x = 1
  · subst h1
    go_enter Tryz.func181, Tryz.ntmps181
    go_wp2
    all_goals (go_ret; exact ⟨by rw [HH.out]; simp [*], rfl⟩)
  · skip
    go_enter Tryz.func181, Tryz.ntmps181
    go_wp2
    all_goals (go_ret; exact ⟨by rw [HH.out]; simp [*], rfl⟩)

set_option maxHeartbeats 1000000 in
theorem implExit_any (x : Int) (w : World) : Calls Tryz.prog 182 #[.int .i64 x] w fun e w' => e = .returned (.int .i64 (exitD x)) ∧ w = w' := by
  have HH : Hid (exitD x = if x = 0 ∨ x = 1 then 5 else if x = 2 ∨ x = 3 then 4 else -1) := Lib.hid rfl
  by_cases h0 : x = 0
  · subst h0
    go_enter Tryz.func182, Tryz.ntmps182
    go_wp2
    all_goals (go_ret; exact ⟨by rw [HH.out]; simp [*], rfl⟩)
  · skip
    by_cases h1 : x = 1
    · subst h1
      go_enter Tryz.func182, Tryz.ntmps182
      go_wp2
      all_goals (go_ret; exact ⟨by rw [HH.out]; simp [*], rfl⟩)
    · skip
      by_cases h2 : x = 2
      · subst h2
        go_enter Tryz.func182, Tryz.ntmps182
        go_wp2
        all_goals (go_ret; exact ⟨by rw [HH.out]; simp [*], rfl⟩)
      · skip
        by_cases h3 : x = 3
        · subst h3
          go_enter Tryz.func182, Tryz.ntmps182
          go_wp2
          all_goals (go_ret; exact ⟨by rw [HH.out]; simp [*], rfl⟩)
        · skip
          go_enter Tryz.func182, Tryz.ntmps182
          go_wp2
          all_goals (go_ret; exact ⟨by rw [HH.out]; simp [*], rfl⟩)

set_option maxHeartbeats 2000000 in
theorem implStep_any (gr ba grace hook st since clock : Int) (w : World) :
    Calls Tryz.prog 196 #[.agg #[.int .i64 gr, .int .i64 ba, .int .i64 grace, .int .i64 hook], .agg #[.int .i64 st, .int .i64 since], .int .i64 clock] w fun e w' =>
      e = .returned (.int .i64 (stepD hook grace st (wrap64 (clock - since)))) ∧ Below w.heap.size w w' := by
  have HH : ∀ sp, Hid (stepD hook grace st sp = if st = 0 then (if 0 < hook then 1 else 2) else if st = 1 then (if hook ≤ sp then 2 else 1) else if st = 2 then (if grace ≤ sp then 3 else 2) else if st = 3 then 4 else st) := fun _ => Lib.hid rfl
  replace HH := HH (wrap64 (clock - since))
  generalize stepD hook grace st (wrap64 (clock - since)) = ans at HH
  have K2 : Below w.heap.size w ((w.alloc (.cells #[.int .i64 gr, .int .i64 ba, .int .i64 grace, .int .i64 hook] 181)).alloc (.cells #[.int .i64 st, .int .i64 since] 62)) := ((Below.refl _ _).alloc (Nat.le_refl _) _).alloc (by simp) _
  by_cases e0 : st = 0
  · subst e0
    by_cases e1 : 0 < hook
    · skip
      go_enter Tryz.func196, Tryz.ntmps196
      go_wp2
      all_goals (go_ret; exact ⟨by rw [HH.out]; simp [*], K2⟩)
    · skip
      go_enter Tryz.func196, Tryz.ntmps196
      go_wp2
      all_goals (go_ret; exact ⟨by rw [HH.out]; simp [*], K2⟩)
  · by_cases e1 : st = 1
    · subst e1
      by_cases e2 : hook ≤ wrap64 (clock - since)
      · skip
        go_enter Tryz.func196, Tryz.ntmps196
        go_wp2
        all_goals (go_ret; exact ⟨by rw [HH.out]; simp [*], K2⟩)
      · skip
        go_enter Tryz.func196, Tryz.ntmps196
        go_wp2
        all_goals (go_ret; exact ⟨by rw [HH.out]; simp [*], K2⟩)
    · by_cases e2 : st = 2
      · subst e2
        by_cases e3 : grace ≤ wrap64 (clock - since)
        · skip
          go_enter Tryz.func196, Tryz.ntmps196
          go_wp2
          all_goals (go_ret; exact ⟨by rw [HH.out]; simp [*], K2⟩)
        · skip
          go_enter Tryz.func196, Tryz.ntmps196
          go_wp2
          all_goals (go_ret; exact ⟨by rw [HH.out]; simp [*], K2⟩)
      · by_cases e3 : st = 3
        · subst e3
          go_enter Tryz.func196, Tryz.ntmps196
          go_wp2
          all_goals (go_ret; exact ⟨by rw [HH.out]; simp [*], K2⟩)
        · skip
          go_enter Tryz.func196, Tryz.ntmps196
          go_wp2
          all_goals (go_ret; exact ⟨by rw [HH.out]; simp [*], K2⟩)
end Go.Proofs.YtdkmhaghnfhajaaGreatDoor
