/-
  What a draw of a plan answers; small laws for it.
-/
import Derived.Test.YtmbblhnagohlhaaPs
import Derived.Deep.DeepCutAuto
set_option linter.unusedVariables false
namespace Go.Proofs.Ytmbblhnagohlhaa
open Go.RowKit

/-- What a draw of a plan answers: lists of its own, of which Q holds. -/
def DrawnPlan (T : TypeId) (kd : IntKind) (Q : PlanD → Prop) (g : Nat) (w : World) (e : Ending) (w' : World) : Prop :=
  ∃ v0 v1 v2 v3 d, e = .returned (.agg #[v0, v1, v2, v3, .int .i64 d.l, .int .i64 d.p, .int .i64 d.t]) ∧
    OI w' w.heap.size 55 4 v0 d.n0 d.x0 ∧ OI w' w.heap.size 2 1 v1 d.n1 d.x1 ∧ OI w' w.heap.size 57 2 v2 d.n2 d.x2 ∧ OI w' w.heap.size 59 1 v3 d.n3 d.x3 ∧
    Cur T kd w' g ∧ Keeps (· = g) w w' ∧ Q d

theorem ext_lt {n k : Nat} {x : Nat → Int} {l : List Int} {j : Nat} (h : j < n * k) : ext n k x l j = x j := if_pos h
theorem ext_at {n k : Nat} {x : Nat → Int} {l : List Int} (i : Nat) : ext n k x l (n * k + i) = l.getD i 0 := by
  unfold ext
  rw [if_neg (by omega), Nat.add_sub_cancel_left]
theorem mul_small {d e : Int} (hd : 0 ≤ d) (hd' : d < 2) (he : 0 ≤ e) (he' : e < 6) : 0 ≤ IntKind.i64.wrap (d * e) ∧ IntKind.i64.wrap (d * e) ≤ 500 := by
  rcases (by omega : d = 0 ∨ d = 1) with rfl | rfl
  · simp; decide
  · rw [Int.one_mul, IntWalk.i64_in _ (by omega)]; omega
theorem min_ok {m : Nat} {x : Nat → Int} {a : Int} (h : ∀ j, j < m → minB x j = true) (h0 : 0 ≤ a) (h1 : a < 3) : ∀ j, j < m + 1 → minB (ext m 1 x [a]) j = true := fun j hj => by
  by_cases e : j < m
  · have := h j e
    unfold minB at this ⊢
    rwa [ext_lt (by omega)]
  · obtain rfl : j = m := by omega
    unfold minB
    have := ext_at (n := j) (k := 1) (x := x) (l := [a]) 0
    rw [Nat.mul_one, Nat.add_zero] at this
    rw [this, inB_true]
    simp
    omega
theorem pod_ok {N m : Nat} {x : Nat → Int} {a b c d : Int} (h : ∀ j, j < m → podB N x j = true) (a0 : 0 ≤ a) (a1 : a < N) (b0 : 0 ≤ b) (b1 : b < 4) (c0 : 0 ≤ c) (c1 : c < 6) (d0 : 0 ≤ d) (d1 : d ≤ 500) :
    ∀ j, j < m + 1 → podB N (ext m 4 x [a, b, c, d]) j = true := fun j hj => by
  by_cases e : j < m
  · have := h j e
    unfold podB at this ⊢
    rwa [ext_lt (by omega), ext_lt (by omega), ext_lt (by omega), ext_lt (by omega)]
  · obtain rfl : j = m := by omega
    unfold podB
    have e0 := ext_at (n := j) (k := 4) (x := x) (l := [a, b, c, d]) 0
    rw [Nat.add_zero] at e0
    rw [e0, ext_at, ext_at, ext_at]
    simp [inB]
    omega
theorem mount_ok {N m : Nat} {x : Nat → Int} {a b : Int} (h : ∀ j, j < m → mountB N x j = true) (a0 : 0 ≤ a) (a1 : a < N) (b0 : -1 ≤ b) (b1 : b < m) : ∀ j, j < m + 1 → mountB N (ext m 2 x [a, b]) j = true := fun j hj => by
  by_cases e : j < m
  · have := h j e
    unfold mountB at this ⊢
    rwa [ext_lt (by omega), ext_lt (by omega)]
  · obtain rfl : j = m := by omega
    unfold mountB
    have e0 := ext_at (n := j) (k := 2) (x := x) (l := [a, b]) 0
    rw [Nat.add_zero] at e0
    rw [e0, ext_at]
    simp [inB]
    omega
theorem device_ok {N m : Nat} {x : Nat → Int} {a : Int} (h : ∀ j, j < m → deviceB N x j = true) (a0 : 0 ≤ a) (a1 : a < N) : ∀ j, j < m + 1 → deviceB N (ext m 1 x [a]) j = true := fun j hj => by
  by_cases e : j < m
  · have := h j e
    unfold deviceB at this ⊢
    rwa [ext_lt (by omega)]
  · obtain rfl : j = m := by omega
    unfold deviceB
    have := ext_at (n := j) (k := 1) (x := x) (l := [a]) 0
    rw [Nat.mul_one, Nat.add_zero] at this
    rw [this, inB_true]
    simp
    omega
theorem ok_of (n0 n1 n2 n3 : Nat) (x0 x1 x2 x3 : Nat → Int) (l p t : Int) (l0 : 0 ≤ l) (l1 : l < 8) (p1 : 1 ≤ p) (p2 : p ≤ 3) (t1 : p ≤ t) (t2 : t ≤ 7) (a0 : n0 ≤ 6) (a1 : n1 ≤ 3) (a2 : n2 ≤ 5) (a3 : n3 ≤ 3)
    (h0 : ∀ j, j < n0 → podB n1 x0 j = true) (h1 : ∀ j, j < n1 → minB x1 j = true) (h2 : ∀ j, j < n2 → mountB n0 x2 j = true) (h3 : ∀ j, j < n3 → deviceB n2 x3 j = true) : planOkB ⟨n0, n1, n2, n3, x0, x1, x2, x3, l, p, t⟩ = true := by
  simp only [planOkB, allB_true.2 h0, allB_true.2 h1, allB_true.2 h2, allB_true.2 h3, sizesB, timesB, inB]
  simp
  omega
theorem Bld.out {T : TypeId} {kd : IntKind} {w W W' : World} {g R P : Nat} {cs : Array Value} {v0 v1 v2 v3 : Value} {n0 n1 n2 n3 : Nat} {x0 x1 x2 x3 : Nat → Int} (B : Bld T kd w W g R P cs v0 v1 v2 v3 n0 n1 n2 n3 x0 x1 x2 x3) (hk : Keeps (· = R) W W') :
    OI W' w.heap.size 55 4 v0 n0 x0 ∧ OI W' w.heap.size 2 1 v1 n1 x1 ∧ OI W' w.heap.size 57 2 v2 n2 x2 ∧ OI W' w.heap.size 59 1 v3 n3 x3 ∧ Cur T kd W' g ∧ Keeps (· = g) w W' := by
  have hr := B.rl
  have hge := B.rge
  have hold := B.old
  have hk0 := B.keep
  exact ⟨B.o0.keeps hk hr (by decide), B.o1.keeps hk hr (by decide), B.o2.keeps hk hr (by decide), B.o3.keeps hk hr (by decide), B.cur.keeps hk (fun b hb e => by have e : b = R := e; omega),
    hk.os.trans hk0.os, hk.tape.trans hk0.tape, hk.output.trans hk0.output, Nat.le_trans hk0.size hk.size, fun b hb hn => (hk.block b (Nat.lt_of_lt_of_le hb hk0.size) (fun e => by have e : b = R := e; omega)).trans (hk0.block b hb hn)⟩
theorem all_none {f : Nat → Bool} : ∀ j, j < 0 → f j = true := fun j hj => absurd hj (by omega)
end Go.Proofs.Ytmbblhnagohlhaa
