/-
  PodsIn, ChildrenOf, MountsOf: the program's and the model's, each answers the same list.
-/
import Derived.Test.YtdkmhaghnfhajaaGreatMZ3
import Derived.Test.YtdkmhaghnfhajaaGreatMZ0
import Derived.Test.YtdkmhaghnfhajaaGreatMZ1
/- Tm -/
set_option linter.unusedVariables false
namespace Go.Proofs.YtdkmhaghnfhajaaGreat
open Go.RowKit

theorem count_flip {P Q : Nat → Bool} {i : Nat} (hP : P i = true) (hQ : Q i = false) (h : ∀ j, j ≠ i → P j = Q j) : ∀ n, (List.range n).countP P = (List.range n).countP Q + if i < n then 1 else 0
  | 0 => by simp
  | n + 1 => by
    have ih := count_flip hP hQ h n
    have e1 : (List.range (n + 1)).countP P = (List.range n).countP P + if P n then 1 else 0 := by rw [List.range_succ, List.countP_append, List.countP_singleton]
    have e2 : (List.range (n + 1)).countP Q = (List.range n).countP Q + if Q n then 1 else 0 := by rw [List.range_succ, List.countP_append, List.countP_singleton]
    rw [e1, e2, ih]
    by_cases e : n = i
    · subst e
      have a1 : (if n < n then 1 else 0) = 0 := if_neg (by omega)
      have a2 : (if n < n + 1 then 1 else 0) = 1 := if_pos (by omega)
      rw [a1, a2, hP, hQ]
      simp
    · rw [h n e]
      have a3 : (if i < n + 1 then 1 else 0) = if i < n then 1 else 0 := by
        by_cases e2 : i < n
        · rw [if_pos e2, if_pos (by omega)]
        · rw [if_neg e2, if_neg (by omega)]
      rw [a3]
      omega
/-- Promise 8: behind an eviction that may be there are as many left as must be. -/
theorem evict_left {d : PlanD} {s : StD} {i : Nat} (h : StOk d s) (hi : i < d.n0) (h0 : (podAt s i).1 = 0) (hm : d.x1 (d.x0 (i * 4)).toNat < healthyN d s (d.x0 (i * 4))) :
    goodR d s ⟨2, i, 6⟩ = true ∧ StOk d (applyR s ⟨2, i, 6⟩) ∧ (applyR s ⟨2, i, 6⟩).ph = s.ph ∧ d.x1 (d.x0 (i * 4)).toNat ≤ healthyN d (applyR s ⟨2, i, 6⟩) (d.x0 (i * 4)) := by
  have hl := planOk_lock h.plan
  have hok : StOk d (applyR s ⟨2, i, 6⟩) := ok_pod h (by decide)
  have hn : i < s.pods.length := by rw [h.np]; exact hi
  have hat : ∀ j, podAt (applyR s ⟨2, i, 6⟩) j = if j = i then (6, s.ck) else podAt s j := fun j => by
    simp only [podAt, applyR]
    by_cases e : j = i
    · subst e
      simp [List.getD, hn]
    · simp [List.getD, Ne.symm e, e]
  have hc := count_flip (P := fun j => decide (d.x0 (j * 4) = d.x0 (i * 4)) && decide ((podAt s j).1 = 0)) (Q := fun j => decide (d.x0 (j * 4) = d.x0 (i * 4)) && decide ((podAt (applyR s ⟨2, i, 6⟩) j).1 = 0)) (i := i)
    (by simp [h0]) (by simp [hat]) (fun j hj => by simp [hat, hj]) d.n0
  rw [if_pos hi] at hc
  refine ⟨goodR_of (by rw [recOkB_true]; simp only []; omega) (by simp [thereB, hn]) hok, hok, rfl, ?_⟩
  unfold healthyN at hm ⊢
  omega
end Go.Proofs.YtdkmhaghnfhajaaGreat
/- PbG -/
set_option linter.unusedVariables false
namespace Go.Proofs.YtdkmhaghnfhajaaGreat
open Go.RowKit

set_option maxHeartbeats 400000 in
theorem groupOfPod_any (A0 A1 A2 A3 : Option Addr) (n0 c0 n1 c1 n2 c2 n3 c3 : Nat) (l p t : Int) (x0 : Nat → Int) (i : Nat) (w : World)
    (s0 : Sl w w.heap.size 4 A0 n0 x0) (hi : i < n0) (b0 : n0 ≤ maxLen) :
    Calls Tryz.prog 114 #[planV A0 A1 A2 A3 n0 c0 n1 c1 n2 c2 n3 c3 l p t, .int .i64 i] w fun e w' =>
      e = .returned (.int .i64 (x0 (i * 4))) ∧ Below w.heap.size w w' := by
  unfold maxLen at b0
  obtain ⟨b, off, rfl, hb, q0, q1, q2, q3⟩ := s0.cell4 hi
  clear s0
  go_enter Tryz.func114, Tryz.ntmps114
  go_wp2
  go_ret
  exact ⟨rfl, (Below.refl _ _).alloc (Nat.le_refl _) _⟩
end Go.Proofs.YtdkmhaghnfhajaaGreat
/- Pl -/
set_option linter.unusedVariables false
namespace Go.Proofs.YtdkmhaghnfhajaaGreat
open Go.RowKit

theorem enter_groupOfPod (x y : Value) (wr : World) : (callFunc 114 #[x, y]).run Tryz.prog wr = .ok (.enter 114 #[x, y]) wr := by simp [go_sem]
set_option maxRecDepth 100000 in
set_option maxHeartbeats 1000000 in
theorem implPodsIn_any (v : Value) (d : PlanD) (wanted : Int) (w : World) (h : IsPlan w w.heap.size v d) (hn : d.n0 ≤ 1048576) :
    Calls Tryz.prog 97 #[v, .int .i64 wanted] w (Listed w (found d d.n0 (fun i => d.x0 (i * 4)) wanted)) := by
  have P := Lib.hid h
  obtain ⟨⟨A0, A1, A2, A3, c0, c1, c2, c3, rfl, s0, s1, s2, s3⟩, b0, b1, b2, b3⟩ := h
  have S := Lib.hid s0
  have B := Lib.hid b0
  have HN := Lib.hid hn
  clear s0 s1 s2 s3 b0 b1 b2 b3 hn
  go_enter Tryz.func97, Tryz.ntmps97
  go_wp2_with fail
  have X1 := Own.box w (planC A0 A1 A2 A3 d.n0 c0 d.n1 c1 d.n2 c2 d.n3 c3 d.l d.p d.t) 29
  refine (numbersWith_any _ d _ d.n0 (fun i => d.x0 (i * 4)) wanted _ ((P.out.below X1.K (Nat.le_refl _)).more X1.K.size) HN.out enter_groupOfPod ?_).mono ?_
  · exact fun i hi wr hb => groupOfPod_any A0 A1 A2 A3 d.n0 c0 d.n1 c1 d.n2 c2 d.n3 c3 d.l d.p d.t d.x0 i wr ((S.out.below (X1.K.trans (hb.mono X1.K.size)) (Nat.le_refl _)).more (X1.K.trans (hb.mono X1.K.size)).size) hi B.out
  · intro e w2 hL
    obtain ⟨v', rfl, O, K⟩ := hL.back X1.K
    clear hL
    go_wp2_with fail
    go_ret
    exact ⟨_, rfl, O, K⟩

end Go.Proofs.YtdkmhaghnfhajaaGreat
