/-
  A state's rows, apart from a box.
-/
import Derived.Test.YtdphpjnecjofeaaGreatDoorMZxYa
/- Yc -/
set_option linter.unusedVariables false
namespace Go.Proofs.YtdphpjnecjofeaaGreatDoor
open Go.RowKit

theorem TP.keeps {S : Nat → Prop} {w w1 w2 : World} {cs zs os : Array Value} (h : TP w w1 cs zs os) (k : Keeps S w1 w2) (hS : ∀ b, S b → w.heap.size + 1 + 1 < b) : TP w w2 cs zs os :=
  ⟨h.A.keeps k (fun b hb => by have := hS b hb; omega) (fun hb => by have := hS _ hb; omega), h.Z.keeps k (fun b hb => by have := hS b hb; omega) (fun hb => by have := hS _ hb; omega), h.O.keeps k (fun b hb => by have := hS b hb; omega) (fun hb => by have := hS _ hb; omega)⟩
/-- A state whose lists, where they hold something, lie in blocks of R. -/
structure RowsR (w : World) (v : Value) (s : StD) (R : Nat → Prop) : Prop where
  it : ∃ g0 g1 g2 g3, Rows4 w v s g0 g1 g2 g3 ∧ (0 < s.pods.length → R g0) ∧ (0 < s.mnts.length → R g1) ∧ (0 < s.devs.length → R g2) ∧ (0 < s.lks.length → R g3)
theorem RowsR.of {w : World} {B B' q : Nat} {v : Value} {s : StD} {xs : List Value} (h : OwnSt w B v s) (hb : BoxS w B' q xs) (hB : B ≤ w.heap.size) : RowsR w v s (fun b => B ≤ b ∧ b < w.heap.size ∧ b ≠ q) := by
  obtain ⟨g0, g1, g2, g3, R, b0, b1, b2, b3⟩ := h.rows hB
  have hq := h.apart hb
  obtain ⟨A0, A1, A2, A3, c0, c1, c2, c3, hv, a0, a1, a2, a3⟩ := R.val
  exact ⟨g0, g1, g2, g3, R, fun hn => ⟨b0, R.z0 hn, fun e => hq ⟨_, 6, _, hv, rfl, by rw [a0 hn, e]; rfl⟩⟩, fun hn => ⟨b1, R.z1 hn, fun e => hq ⟨_, 7, _, hv, rfl, by rw [a1 hn, e]; rfl⟩⟩,
    fun hn => ⟨b2, R.z2 hn, fun e => hq ⟨_, 8, _, hv, rfl, by rw [a2 hn, e]; rfl⟩⟩, fun hn => ⟨b3, R.z3 hn, fun e => hq ⟨_, 9, _, hv, rfl, by rw [a3 hn, e]; rfl⟩⟩⟩
theorem RowsR.go {w w' : World} {R : Nat → Prop} {v : Value} {s : StD} (h : RowsR w v s R) (hb : Below w.heap.size w w') : RowsR w' v s R := by
  obtain ⟨g0, g1, g2, g3, r, es⟩ := h.it
  exact ⟨g0, g1, g2, g3, r.go hb, es⟩
theorem RowsR.is {w : World} {R : Nat → Prop} {v : Value} {s : StD} (h : RowsR w v s R) (hf : StFits s 1048576) : IsSt w w.heap.size v s := by
  obtain ⟨g0, g1, g2, g3, r, -⟩ := h.it
  exact r.is hf
theorem RowsR.keeps {S R : Nat → Prop} {w w' : World} {v : Value} {s : StD} (h : RowsR w v s R) (k : Keeps S w w') (hS : ∀ b, R b → ¬ S b) : RowsR w' v s R := by
  obtain ⟨g0, g1, g2, g3, r, e0, e1, e2, e3⟩ := h.it
  exact ⟨g0, g1, g2, g3, r.keeps k (fun h => hS _ (e0 h)) (fun h => hS _ (e1 h)) (fun h => hS _ (e2 h)) (fun h => hS _ (e3 h)), e0, e1, e2, e3⟩
/-- The same rows, those that hold nothing named by numbers behind the heap. -/
theorem RowsR.apart {w : World} {P : Nat → Prop} {v : Value} {s : StD} (h : RowsR w v s P) : ∃ g0 g1 g2 g3, Rows4 w v s g0 g1 g2 g3 ∧ ((0 < s.pods.length → P g0) ∧ (0 < s.mnts.length → P g1) ∧ (0 < s.devs.length → P g2) ∧ (0 < s.lks.length → P g3)) ∧
    ∀ b, b < w.heap.size → (b = g0 ∨ b = g1 ∨ b = g2 ∨ b = g3) → P b := by
  obtain ⟨g0, g1, g2, g3, R, e0, e1, e2, e3⟩ := h.it
  obtain ⟨⟨A0, A1, A2, A3, c0, c1, c2, c3, hv, a0, a1, a2, a3⟩, z0, R0, z1, R1, z2, R2, z3, R3, d01, d02, d03, d12, d13, d23⟩ := R
  obtain ⟨h0, p0, q0⟩ := if_pick (n := s.pods.length) (g := g0) (m := w.heap.size)
  obtain ⟨h1, p1, q1⟩ := if_pick (n := s.mnts.length) (g := g1) (m := w.heap.size + 1)
  obtain ⟨h2, p2, q2⟩ := if_pick (n := s.devs.length) (g := g2) (m := w.heap.size + 2)
  obtain ⟨h3, p3, q3⟩ := if_pick (n := s.lks.length) (g := g3) (m := w.heap.size + 3)
  have k0 : ∀ b, b < w.heap.size → b = h0 → P b := fun b hb e => by
    by_cases hn : 0 < s.pods.length
    · rw [e, p0 hn]; exact e0 hn
    · rw [q0 hn] at e; omega
  have k1 : ∀ b, b < w.heap.size → b = h1 → P b := fun b hb e => by
    by_cases hn : 0 < s.mnts.length
    · rw [e, p1 hn]; exact e1 hn
    · rw [q1 hn] at e; omega
  have k2 : ∀ b, b < w.heap.size → b = h2 → P b := fun b hb e => by
    by_cases hn : 0 < s.devs.length
    · rw [e, p2 hn]; exact e2 hn
    · rw [q2 hn] at e; omega
  have k3 : ∀ b, b < w.heap.size → b = h3 → P b := fun b hb e => by
    by_cases hn : 0 < s.lks.length
    · rw [e, p3 hn]; exact e3 hn
    · rw [q3 hn] at e; omega
  refine ⟨h0, h1, h2, h3, ⟨⟨A0, A1, A2, A3, c0, c1, c2, c3, hv, fun h => by rw [p0 h]; exact a0 h, fun h => by rw [p1 h]; exact a1 h, fun h => by rw [p2 h]; exact a2 h, fun h => by rw [p3 h]; exact a3 h⟩,
    fun h => by rw [p0 h]; exact z0 h, row_pick R0 p0 (podCs_len _), fun h => by rw [p1 h]; exact z1 h, row_pick R1 p1 (mntCs_len _), fun h => by rw [p2 h]; exact z2 h, row_pick R2 p2 (devCs_len _), fun h => by rw [p3 h]; exact z3 h, row_pick R3 p3 (lkCs_len _), ?_, ?_, ?_, ?_, ?_, ?_⟩,
    ⟨fun h => by rw [p0 h]; exact e0 h, fun h => by rw [p1 h]; exact e1 h, fun h => by rw [p2 h]; exact e2 h, fun h => by rw [p3 h]; exact e3 h⟩, fun b hb hor => hor.elim (k0 b hb) fun h => h.elim (k1 b hb) fun h => h.elim (k2 b hb) (k3 b hb)⟩
  all_goals
    clear k0 k1 k2 k3 e0 e1 e2 e3
    by_cases n0 : 0 < s.pods.length <;> by_cases n1 : 0 < s.mnts.length <;> by_cases n2 : 0 < s.devs.length <;> by_cases n3 : 0 < s.lks.length <;>
      simp only [n0, n1, n2, n3, true_implies, not_true_eq_false, not_false_eq_true, false_implies] at p0 q0 p1 q1 p2 q2 p3 q3 z0 z1 z2 z3 <;> omega
theorem markR_any (v : Value) (s : StD) (R : Nat → Prop) (k : Int) (w : World) (h : RowsR w v s R) (hf : StFits s 1048576) (hk0 : 0 ≤ k) (hk1 : k + totS s ≤ 8388608) :
    Calls Tryz.prog 17 #[v, .int .i64 k] w fun e w' => e = .returned (.int .i64 (k + totS s)) ∧ RowsR w' v (markS k s) R ∧ Keeps R w w' := by
  obtain ⟨g0, g1, g2, g3, r, es, hs⟩ := h.apart
  refine (markState_any v s g0 g1 g2 g3 k w r hf hk0 hk1).mono ?_
  rintro e w' ⟨he, r', k'⟩
  exact ⟨he, ⟨g0, g1, g2, g3, r', by simpa [markS, mkPods_len, mkMnts_len, mkDevs_len, mkLks_len] using es⟩, k'.into hs⟩
theorem heldR_any (v : Value) (s : StD) (R : Nat → Prop) (k : Int) (w : World) (h : RowsR w v (markS k s) R) (hf : StFits s 1048576) (hk0 : 0 ≤ k) (hk1 : k + totS s ≤ 8388608) :
    Calls Tryz.prog 18 #[v, .int .i64 k] w fun e w' => e = .returned (.int .i64 (k + totS s)) ∧ Below w.heap.size w w' := by
  obtain ⟨g0, g1, g2, g3, r, -⟩ := h.it
  exact heldState_any v s g0 g1 g2 g3 k w r hf hk0 hk1
theorem appliedS_fits {d : PlanD} {s : StD} {r : RecD} (hf : StFits s 1048576) : StFits (appliedS d s r).1 1048576 := by
  unfold appliedS
  split
  · split
    · rename_i hg
      simp only [goodR, Bool.and_eq_true] at hg
      exact fits_ok (stOkB_iff.1 hg.2)
    · exact hf
  · exact ⟨by simp [zeroS], by simp [zeroS], by simp [zeroS], by simp [zeroS]⟩
end Go.Proofs.YtdphpjnecjofeaaGreatDoor
