/-
  SameState decides whether two states hold the same: the model's and the program's.
-/
import Derived.Test.YtdkmhaghnfhajaaGreatDoorMZxLqB
import Derived.BigQuiet
import Derived.RegionTactic
import Derived.BigRegion
set_option linter.unusedVariables false
namespace Go.Proofs.YtdkmhaghnfhajaaGreatDoor
open Go.RowKit

def eqUp {α : Type} (l m : List α) (z : α) (k : Nat) : Prop := ∀ j, j < k → l.getD j z = m.getD j z
theorem eqUp_zero {α : Type} {l m : List α} {z : α} : eqUp l m z 0 := fun j hj => absurd hj (Nat.not_lt_zero _)
theorem eqUp_next {α : Type} {l m : List α} {z : α} {k : Nat} (h : eqUp l m z k) (e : l.getD k z = m.getD k z) : eqUp l m z (k + 1) := fun j hj => by
  by_cases hjk : j = k
  · subst hjk
    exact e
  · exact h j (by omega)
theorem eqUp_all {α : Type} {l m : List α} {z : α} {k : Nat} (h : eqUp l m z k) (hl : l.length = k) (hm : m.length = k) : l = m := by
  refine List.ext_getElem (by omega) fun i h1 h2 => ?_
  have := h i (by omega)
  simpa [List.getD, h1, h2] using this
set_option maxRecDepth 100000 in
set_option maxHeartbeats 8000000 in
theorem sliceEqPod_any (l m : List (Int × Int)) (A B : Option Addr) (c d : Nat) (w : World) (hA : SlV w w.heap.size 2 A l.length (podCs l)) (hB : SlV w w.heap.size 2 B m.length (podCs m)) (hl : l.length ≤ maxLen) (hm : m.length ≤ maxLen) :
    Calls Tryz.prog 54 #[.slice A l.length c, .slice B m.length d] w fun e w' => e = .returned (.bool (decide (l = m))) ∧ Below w.heap.size w w' := by
  unfold maxLen at hl hm
  have S := Lib.hid hA
  have T := Lib.hid hB
  clear hA hB
  obtain ⟨ans, hans⟩ : ∃ ans, decide (l = m) = ans := ⟨_, rfl⟩
  rw [hans]
  have HANS := Lib.hid hans
  clear hans
  generalize hq : l.length = n at *
  generalize hp : m.length = n' at *
  have Q := Lib.hid hq
  have P := Lib.hid hp
  clear hq hp
  go_enter Tryz.func54, Tryz.ntmps54
  by_cases hx : n = n'
  case neg =>
    have HF : Hid (ans = false) := Lib.hid (by rw [← HANS.out]; exact decide_eq_false (fun e => hx (by rw [← Q.out, ← P.out, e])))
    have e0 : ((n : Int) == (n' : Int)) = false := beq_eq_false_iff_ne.2 (fun h => hx (by omega))
    have e1 : ((n : Int) != (n' : Int)) = true := bne_iff_ne.2 (fun h => hx (by omega))
    clear hx
    go_wp2
    all_goals (go_ret; exact ⟨by rw [HF.out]; rfl, Below.refl _ _⟩)
  subst hx
  go_wp2_with fail
  go_loopw [13] (fun i wr => ∃ k : Nat, k ≤ n ∧ i = .int .i64 k ∧ Hid (eqUp l m (0, 0) k) ∧ Below w.heap.size w wr) (fun i _ => n - (intOf i).toNat)
  case atStart => exact ⟨0, Nat.zero_le _, rfl, Lib.hid eqUp_zero, Below.refl _ _⟩
  case round =>
  obtain ⟨k, hk, rfl, HALL, K⟩ := hrel
  by_cases hlt : k < n
  case neg =>
    obtain rfl : n = k := by omega
    have HA : Hid (ans = true) := Lib.hid (by rw [← HANS.out]; exact decide_eq_true (eqUp_all HALL.out Q.out P.out))
    go_wp2
    all_goals (go_ret; exact ⟨by rw [HA.out]; rfl, K⟩)
  case pos =>
    obtain ⟨b, off, rfl, hb, hc⟩ := (S.out.below K (Nat.le_refl _)).cell hlt
    obtain ⟨b', off', rfl, hb', hc'⟩ := (T.out.below K (Nat.le_refl _)).cell hlt
    have hp := podCs_at l (i := k) (by rw [Q.out]; exact hlt)
    have hp' := podCs_at m (i := k) (by rw [P.out]; exact hlt)
    have q0 := (hc 0 (by decide)).trans hp.1
    have q1 := (hc 1 (by decide)).trans hp.2
    have r0 := (hc' 0 (by decide)).trans hp'.1
    have r1 := (hc' 1 (by decide)).trans hp'.2
    rw [Nat.add_zero] at q0 r0
    clear hc hc' hp hp' hb hb'
    have HEQ : Hid (podA l k = podA m k → eqUp l m (0, 0) (k + 1)) := Lib.hid fun h => eqUp_next HALL.out h
    have HNE : Hid (¬ podA l k = podA m k → ans = false) := Lib.hid fun h => by rw [← HANS.out]; exact decide_eq_false (fun e => h (congrArg (fun l => podA l k) e))
    generalize podA l k = z at *
    generalize podA m k = z' at *
    obtain ⟨x, y⟩ := z
    obtain ⟨x', y'⟩ := z'
    dsimp only at q0 q1 r0 r1
    by_cases hx : x = x'
    case neg =>
      have HF : Hid (ans = false) := Lib.hid (HNE.out fun h => hx (congrArg Prod.fst h))
      have e0 : (x == x') = false := by simpa using hx
      have e1 : (x != x') = true := by simpa using hx
      clear hx HEQ HNE
      go_wp2_with fail
      go_quiet (fail)
      go_wp2
      all_goals (go_ret; exact ⟨by rw [HF.out]; rfl, below_drewN K _⟩)
    subst hx
    by_cases hy : y = y'
    case neg =>
      have HF : Hid (ans = false) := Lib.hid (HNE.out fun h => hy (congrArg Prod.snd h))
      have e0 : (y == y') = false := by simpa using hy
      have e1 : (y != y') = true := by simpa using hy
      clear hy HEQ HNE
      go_wp2_with fail
      go_quiet (fail)
      go_wp2
      all_goals (go_ret; exact ⟨by rw [HF.out]; rfl, below_drewN K _⟩)
    subst hy
    have HA := Lib.hid (HEQ.out rfl)
    clear HEQ HNE
    go_wp2_with fail
    go_quiet (fail)
    go_wp2_with fail
    exact ⟨⟨k + 1, by omega, by go_num, HA, below_drewN K _⟩, by simp [intOf]; omega⟩
set_option maxRecDepth 100000 in
set_option maxHeartbeats 8000000 in
theorem sliceEqMnt_any (l m : List (Bool × Int)) (A B : Option Addr) (c d : Nat) (w : World) (hA : SlV w w.heap.size 2 A l.length (mntCs l)) (hB : SlV w w.heap.size 2 B m.length (mntCs m)) (hl : l.length ≤ maxLen) (hm : m.length ≤ maxLen) :
    Calls Tryz.prog 55 #[.slice A l.length c, .slice B m.length d] w fun e w' => e = .returned (.bool (decide (l = m))) ∧ Below w.heap.size w w' := by
  unfold maxLen at hl hm
  have S := Lib.hid hA
  have T := Lib.hid hB
  clear hA hB
  obtain ⟨ans, hans⟩ : ∃ ans, decide (l = m) = ans := ⟨_, rfl⟩
  rw [hans]
  have HANS := Lib.hid hans
  clear hans
  generalize hq : l.length = n at *
  generalize hp : m.length = n' at *
  have Q := Lib.hid hq
  have P := Lib.hid hp
  clear hq hp
  go_enter Tryz.func55, Tryz.ntmps55
  by_cases hx : n = n'
  case neg =>
    have HF : Hid (ans = false) := Lib.hid (by rw [← HANS.out]; exact decide_eq_false (fun e => hx (by rw [← Q.out, ← P.out, e])))
    have e0 : ((n : Int) == (n' : Int)) = false := beq_eq_false_iff_ne.2 (fun h => hx (by omega))
    have e1 : ((n : Int) != (n' : Int)) = true := bne_iff_ne.2 (fun h => hx (by omega))
    clear hx
    go_wp2
    all_goals (go_ret; exact ⟨by rw [HF.out]; rfl, Below.refl _ _⟩)
  subst hx
  go_wp2_with fail
  go_loopw [13] (fun i wr => ∃ k : Nat, k ≤ n ∧ i = .int .i64 k ∧ Hid (eqUp l m (false, 0) k) ∧ Below w.heap.size w wr) (fun i _ => n - (intOf i).toNat)
  case atStart => exact ⟨0, Nat.zero_le _, rfl, Lib.hid eqUp_zero, Below.refl _ _⟩
  case round =>
  obtain ⟨k, hk, rfl, HALL, K⟩ := hrel
  by_cases hlt : k < n
  case neg =>
    obtain rfl : n = k := by omega
    have HA : Hid (ans = true) := Lib.hid (by rw [← HANS.out]; exact decide_eq_true (eqUp_all HALL.out Q.out P.out))
    go_wp2
    all_goals (go_ret; exact ⟨by rw [HA.out]; rfl, K⟩)
  case pos =>
    obtain ⟨b, off, rfl, hb, hc⟩ := (S.out.below K (Nat.le_refl _)).cell hlt
    obtain ⟨b', off', rfl, hb', hc'⟩ := (T.out.below K (Nat.le_refl _)).cell hlt
    have hp := mntCs_at l (i := k) (by rw [Q.out]; exact hlt)
    have hp' := mntCs_at m (i := k) (by rw [P.out]; exact hlt)
    have q0 := (hc 0 (by decide)).trans hp.1
    have q1 := (hc 1 (by decide)).trans hp.2
    have r0 := (hc' 0 (by decide)).trans hp'.1
    have r1 := (hc' 1 (by decide)).trans hp'.2
    rw [Nat.add_zero] at q0 r0
    clear hc hc' hp hp' hb hb'
    have HEQ : Hid (mntA l k = mntA m k → eqUp l m (false, 0) (k + 1)) := Lib.hid fun h => eqUp_next HALL.out h
    have HNE : Hid (¬ mntA l k = mntA m k → ans = false) := Lib.hid fun h => by rw [← HANS.out]; exact decide_eq_false (fun e => h (congrArg (fun l => mntA l k) e))
    generalize mntA l k = z at *
    generalize mntA m k = z' at *
    obtain ⟨x, y⟩ := z
    obtain ⟨x', y'⟩ := z'
    dsimp only at q0 q1 r0 r1
    by_cases hx : x = x'
    case neg =>
      have HF : Hid (ans = false) := Lib.hid (HNE.out fun h => hx (congrArg Prod.fst h))
      have e0 : (x == x') = false := by simpa using hx
      have e1 : (x != x') = true := by simpa using hx
      clear hx HEQ HNE
      go_wp2_with fail
      go_quiet (fail)
      go_wp2
      all_goals (go_ret; exact ⟨by rw [HF.out]; rfl, below_drewN K _⟩)
    subst hx
    by_cases hy : y = y'
    case neg =>
      have HF : Hid (ans = false) := Lib.hid (HNE.out fun h => hy (congrArg Prod.snd h))
      have e0 : (y == y') = false := by simpa using hy
      have e1 : (y != y') = true := by simpa using hy
      clear hy HEQ HNE
      go_wp2_with fail
      go_quiet (fail)
      go_wp2
      all_goals (go_ret; exact ⟨by rw [HF.out]; rfl, below_drewN K _⟩)
    subst hy
    have HA := Lib.hid (HEQ.out rfl)
    clear HEQ HNE
    go_wp2_with fail
    go_quiet (fail)
    go_wp2_with fail
    exact ⟨⟨k + 1, by omega, by go_num, HA, below_drewN K _⟩, by simp [intOf]; omega⟩
set_option maxRecDepth 100000 in
set_option maxHeartbeats 8000000 in
theorem sliceEqDev_any (l m : List Bool) (A B : Option Addr) (c d : Nat) (w : World) (hA : SlV w w.heap.size 1 A l.length (devCs l)) (hB : SlV w w.heap.size 1 B m.length (devCs m)) (hl : l.length ≤ maxLen) (hm : m.length ≤ maxLen) :
    Calls Tryz.prog 56 #[.slice A l.length c, .slice B m.length d] w fun e w' => e = .returned (.bool (decide (l = m))) ∧ Below w.heap.size w w' := by
  unfold maxLen at hl hm
  have S := Lib.hid hA
  have T := Lib.hid hB
  clear hA hB
  obtain ⟨ans, hans⟩ : ∃ ans, decide (l = m) = ans := ⟨_, rfl⟩
  rw [hans]
  have HANS := Lib.hid hans
  clear hans
  generalize hq : l.length = n at *
  generalize hp : m.length = n' at *
  have Q := Lib.hid hq
  have P := Lib.hid hp
  clear hq hp
  go_enter Tryz.func56, Tryz.ntmps56
  by_cases hx : n = n'
  case neg =>
    have HF : Hid (ans = false) := Lib.hid (by rw [← HANS.out]; exact decide_eq_false (fun e => hx (by rw [← Q.out, ← P.out, e])))
    have e0 : ((n : Int) == (n' : Int)) = false := beq_eq_false_iff_ne.2 (fun h => hx (by omega))
    have e1 : ((n : Int) != (n' : Int)) = true := bne_iff_ne.2 (fun h => hx (by omega))
    clear hx
    go_wp2
    all_goals (go_ret; exact ⟨by rw [HF.out]; rfl, Below.refl _ _⟩)
  subst hx
  go_wp2_with fail
  go_loopw [13] (fun i wr => ∃ k : Nat, k ≤ n ∧ i = .int .i64 k ∧ Hid (eqUp l m false k) ∧ Below w.heap.size w wr) (fun i _ => n - (intOf i).toNat)
  case atStart => exact ⟨0, Nat.zero_le _, rfl, Lib.hid eqUp_zero, Below.refl _ _⟩
  case round =>
  obtain ⟨k, hk, rfl, HALL, K⟩ := hrel
  by_cases hlt : k < n
  case neg =>
    obtain rfl : n = k := by omega
    have HA : Hid (ans = true) := Lib.hid (by rw [← HANS.out]; exact decide_eq_true (eqUp_all HALL.out Q.out P.out))
    go_wp2
    all_goals (go_ret; exact ⟨by rw [HA.out]; rfl, K⟩)
  case pos =>
    obtain ⟨b, off, rfl, hb, hc⟩ := (S.out.below K (Nat.le_refl _)).cell hlt
    obtain ⟨b', off', rfl, hb', hc'⟩ := (T.out.below K (Nat.le_refl _)).cell hlt
    have hp := devCs_at l (i := k) (by rw [Q.out]; exact hlt)
    have hp' := devCs_at m (i := k) (by rw [P.out]; exact hlt)
    have q0 := hc 0 (by decide)
    have r0 := hc' 0 (by decide)
    rw [Nat.add_zero, Nat.mul_one, Nat.add_zero] at q0 r0
    rw [hp] at q0
    rw [hp'] at r0
    clear hc hc' hp hp' hb hb'
    have HEQ : Hid (devA l k = devA m k → eqUp l m false (k + 1)) := Lib.hid fun h => eqUp_next HALL.out h
    have HNE : Hid (¬ devA l k = devA m k → ans = false) := Lib.hid fun h => by rw [← HANS.out]; exact decide_eq_false (fun e => h (congrArg (fun l => devA l k) e))
    generalize devA l k = z at *
    generalize devA m k = z' at *
    by_cases hx : z = z'
    case neg =>
      have HF : Hid (ans = false) := Lib.hid (HNE.out hx)
      have e0 : (z == z') = false := by simpa using hx
      have e1 : (z != z') = true := by simpa using hx
      clear hx HEQ HNE
      go_wp2_with fail
      go_quiet (fail)
      go_wp2
      all_goals (go_ret; exact ⟨by rw [HF.out]; rfl, below_drewN K _⟩)
    subst hx
    have HA := Lib.hid (HEQ.out rfl)
    clear HEQ HNE
    go_wp2_with fail
    go_quiet (fail)
    go_wp2_with fail
    exact ⟨⟨k + 1, by omega, by go_num, HA, below_drewN K _⟩, by simp [intOf]; omega⟩
set_option maxRecDepth 100000 in
set_option maxHeartbeats 8000000 in
theorem sliceEqLk_any (l m : List Int) (A B : Option Addr) (c d : Nat) (w : World) (hA : SlV w w.heap.size 1 A l.length (lkCs l)) (hB : SlV w w.heap.size 1 B m.length (lkCs m)) (hl : l.length ≤ maxLen) (hm : m.length ≤ maxLen) :
    Calls Tryz.prog 57 #[.slice A l.length c, .slice B m.length d] w fun e w' => e = .returned (.bool (decide (l = m))) ∧ Below w.heap.size w w' := by
  unfold maxLen at hl hm
  have S := Lib.hid hA
  have T := Lib.hid hB
  clear hA hB
  obtain ⟨ans, hans⟩ : ∃ ans, decide (l = m) = ans := ⟨_, rfl⟩
  rw [hans]
  have HANS := Lib.hid hans
  clear hans
  generalize hq : l.length = n at *
  generalize hp : m.length = n' at *
  have Q := Lib.hid hq
  have P := Lib.hid hp
  clear hq hp
  go_enter Tryz.func57, Tryz.ntmps57
  by_cases hx : n = n'
  case neg =>
    have HF : Hid (ans = false) := Lib.hid (by rw [← HANS.out]; exact decide_eq_false (fun e => hx (by rw [← Q.out, ← P.out, e])))
    have e0 : ((n : Int) == (n' : Int)) = false := beq_eq_false_iff_ne.2 (fun h => hx (by omega))
    have e1 : ((n : Int) != (n' : Int)) = true := bne_iff_ne.2 (fun h => hx (by omega))
    clear hx
    go_wp2
    all_goals (go_ret; exact ⟨by rw [HF.out]; rfl, Below.refl _ _⟩)
  subst hx
  go_wp2_with fail
  go_loopw [13] (fun i wr => ∃ k : Nat, k ≤ n ∧ i = .int .i64 k ∧ Hid (eqUp l m 0 k) ∧ Below w.heap.size w wr) (fun i _ => n - (intOf i).toNat)
  case atStart => exact ⟨0, Nat.zero_le _, rfl, Lib.hid eqUp_zero, Below.refl _ _⟩
  case round =>
  obtain ⟨k, hk, rfl, HALL, K⟩ := hrel
  by_cases hlt : k < n
  case neg =>
    obtain rfl : n = k := by omega
    have HA : Hid (ans = true) := Lib.hid (by rw [← HANS.out]; exact decide_eq_true (eqUp_all HALL.out Q.out P.out))
    go_wp2
    all_goals (go_ret; exact ⟨by rw [HA.out]; rfl, K⟩)
  case pos =>
    obtain ⟨b, off, rfl, hb, hc⟩ := (S.out.below K (Nat.le_refl _)).cell hlt
    obtain ⟨b', off', rfl, hb', hc'⟩ := (T.out.below K (Nat.le_refl _)).cell hlt
    have hp := lkCs_at l (i := k) (by rw [Q.out]; exact hlt)
    have hp' := lkCs_at m (i := k) (by rw [P.out]; exact hlt)
    have q0 := hc 0 (by decide)
    have r0 := hc' 0 (by decide)
    rw [Nat.add_zero, Nat.mul_one, Nat.add_zero] at q0 r0
    rw [hp] at q0
    rw [hp'] at r0
    clear hc hc' hp hp' hb hb'
    have HEQ : Hid (lkA l k = lkA m k → eqUp l m 0 (k + 1)) := Lib.hid fun h => eqUp_next HALL.out h
    have HNE : Hid (¬ lkA l k = lkA m k → ans = false) := Lib.hid fun h => by rw [← HANS.out]; exact decide_eq_false (fun e => h (congrArg (fun l => lkA l k) e))
    generalize lkA l k = z at *
    generalize lkA m k = z' at *
    by_cases hx : z = z'
    case neg =>
      have HF : Hid (ans = false) := Lib.hid (HNE.out hx)
      have e0 : (z == z') = false := by simpa using hx
      have e1 : (z != z') = true := by simpa using hx
      clear hx HEQ HNE
      go_wp2_with fail
      go_quiet (fail)
      go_wp2
      all_goals (go_ret; exact ⟨by rw [HF.out]; rfl, below_drewN K _⟩)
    subst hx
    have HA := Lib.hid (HEQ.out rfl)
    clear HEQ HNE
    go_wp2_with fail
    go_quiet (fail)
    go_wp2_with fail
    exact ⟨⟨k + 1, by omega, by go_num, HA, below_drewN K _⟩, by simp [intOf]; omega⟩
end Go.Proofs.YtdkmhaghnfhajaaGreatDoor
