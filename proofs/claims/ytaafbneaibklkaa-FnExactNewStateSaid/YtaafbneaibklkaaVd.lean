/-
  Rows of a state's lists, read.
-/
import Derived.Test.YtaafbneaibklkaaUf
set_option linter.unusedVariables false
namespace Go.Proofs.Ytaafbneaibklkaa
open Go.RowKit

theorem slv_of_row {w : World} {B k n g : Nat} {A : Option Addr} {xs : List Value} (hA : 0 < n → A = some ⟨g, 0, none⟩) (hz : 0 < n → g < B) (R : RowV w g xs) (hl : xs.length = n * k) : SlV w B k A n xs :=
  ⟨hl, fun hn => ⟨g, 0, hA hn, hz hn, fun j hj => by rw [Nat.zero_add]; exact (R j (by omega)).1⟩⟩
theorem Rows4.is {w : World} {v : Value} {s : StD} {g0 g1 g2 g3 : Nat} (h : Rows4 w v s g0 g1 g2 g3) (hf : StFits s 1048576) : IsSt w w.heap.size v s := by
  obtain ⟨⟨A0, A1, A2, A3, c0, c1, c2, c3, hv, a0, a1, a2, a3⟩, z0, R0, z1, R1, z2, R2, z3, R3, -, -, -, -, -, -⟩ := h
  obtain ⟨f0, f1, f2, f3⟩ := hf
  have hm : 1048576 ≤ maxLen := by unfold maxLen; decide
  exact ⟨⟨A0, A1, A2, A3, c0, c1, c2, c3, hv, slv_of_row a0 z0 R0 (podCs_len _), slv_of_row a1 z1 R1 (mntCs_len _), slv_of_row a2 z2 R2 (devCs_len _), slv_of_row a3 z3 R3 (lkCs_len _)⟩, by omega, by omega, by omega, by omega⟩
theorem Rows4.keeps {S : Nat → Prop} {w w' : World} {v : Value} {s : StD} {g0 g1 g2 g3 : Nat} (h : Rows4 w v s g0 g1 g2 g3) (k : Keeps S w w') (n0 : 0 < s.pods.length → ¬ S g0) (n1 : 0 < s.mnts.length → ¬ S g1) (n2 : 0 < s.devs.length → ¬ S g2) (n3 : 0 < s.lks.length → ¬ S g3) : Rows4 w' v s g0 g1 g2 g3 := by
  obtain ⟨hv, z0, R0, z1, R1, z2, R2, z3, R3, d01, d02, d03, d12, d13, d23⟩ := h
  have e0 : (podCs s.pods).length = s.pods.length * 2 := podCs_len _
  have e1 : (mntCs s.mnts).length = s.mnts.length * 2 := mntCs_len _
  have e2 : (devCs s.devs).length = s.devs.length * 1 := devCs_len _
  have e3 : (lkCs s.lks).length = s.lks.length * 1 := lkCs_len _
  exact ⟨hv, fun h => Nat.lt_of_lt_of_le (z0 h) k.size, fun j hj => RowV.keeps R0 k (z0 (by omega)) (n0 (by omega)) j hj, fun h => Nat.lt_of_lt_of_le (z1 h) k.size, fun j hj => RowV.keeps R1 k (z1 (by omega)) (n1 (by omega)) j hj,
    fun h => Nat.lt_of_lt_of_le (z2 h) k.size, fun j hj => RowV.keeps R2 k (z2 (by omega)) (n2 (by omega)) j hj, fun h => Nat.lt_of_lt_of_le (z3 h) k.size, fun j hj => RowV.keeps R3 k (z3 (by omega)) (n3 (by omega)) j hj, d01, d02, d03, d12, d13, d23⟩
/-- A state whose lists, where they hold something, lie in blocks of their own from B to E. -/
structure RowsIn (w : World) (v : Value) (s : StD) (B E : Nat) : Prop where
  it : ∃ g0 g1 g2 g3, Rows4 w v s g0 g1 g2 g3 ∧ (B ≤ g0 ∧ B ≤ g1 ∧ B ≤ g2 ∧ B ≤ g3) ∧ (0 < s.pods.length → g0 < E) ∧ (0 < s.mnts.length → g1 < E) ∧ (0 < s.devs.length → g2 < E) ∧ (0 < s.lks.length → g3 < E)
theorem RowsIn.of {w : World} {B : Nat} {v : Value} {s : StD} (h : OwnSt w B v s) (hB : B ≤ w.heap.size) : RowsIn w v s B w.heap.size := by
  obtain ⟨g0, g1, g2, g3, R, b0, b1, b2, b3⟩ := h.rows hB
  exact ⟨g0, g1, g2, g3, R, ⟨b0, b1, b2, b3⟩, R.z0, R.z1, R.z2, R.z3⟩
theorem RowsIn.val {w : World} {B E : Nat} {v : Value} {s : StD} (h : RowsIn w v s B E) : ∃ A0 A1 A2 A3 c0 c1 c2 c3, v = .agg (stC A0 A1 A2 A3 s.pods.length c0 s.mnts.length c1 s.devs.length c2 s.lks.length c3 s.ph s.co s.ck s.bo s.ba s.lb s.gd s.pr) := by
  obtain ⟨g0, g1, g2, g3, R, -⟩ := h.it
  obtain ⟨A0, A1, A2, A3, c0, c1, c2, c3, hv, -⟩ := R.val
  exact ⟨A0, A1, A2, A3, c0, c1, c2, c3, hv⟩
theorem RowsIn.go {w w' : World} {B E : Nat} {v : Value} {s : StD} (h : RowsIn w v s B E) (hb : Below w.heap.size w w') : RowsIn w' v s B E := by
  obtain ⟨g0, g1, g2, g3, R, bs, es⟩ := h.it
  exact ⟨g0, g1, g2, g3, R.go hb, bs, es⟩
theorem RowsIn.is {w : World} {B E : Nat} {v : Value} {s : StD} (h : RowsIn w v s B E) (hf : StFits s 1048576) : IsSt w w.heap.size v s := by
  obtain ⟨g0, g1, g2, g3, R, -⟩ := h.it
  exact R.is hf
theorem RowsIn.keeps {S : Nat → Prop} {w w' : World} {B E : Nat} {v : Value} {s : StD} (h : RowsIn w v s B E) (k : Keeps S w w') (hS : ∀ b, B ≤ b → b < E → ¬ S b) : RowsIn w' v s B E := by
  obtain ⟨g0, g1, g2, g3, R, ⟨b0, b1, b2, b3⟩, e0, e1, e2, e3⟩ := h.it
  exact ⟨g0, g1, g2, g3, R.keeps k (fun h => hS _ b0 (e0 h)) (fun h => hS _ b1 (e1 h)) (fun h => hS _ b2 (e2 h)) (fun h => hS _ b3 (e3 h)), ⟨b0, b1, b2, b3⟩, e0, e1, e2, e3⟩
theorem if_pick {n g m : Nat} : ∃ h, (0 < n → h = g) ∧ (¬ 0 < n → h = m) := by
  by_cases hn : 0 < n
  · exact ⟨g, fun _ => rfl, fun h => absurd hn h⟩
  · exact ⟨m, fun h => absurd h hn, fun _ => rfl⟩
theorem row_pick {w : World} {n g h : Nat} {xs : List Value} {k : Nat} (R : RowV w g xs) (e : 0 < n → h = g) (hl : xs.length = n * k) : RowV w h xs := by
  intro j hj
  have hn : 0 < n := Nat.pos_of_ne_zero fun h0 => by rw [h0, Nat.zero_mul] at hl; omega
  rw [e hn]
  exact R j hj
/-- The same rows, those that hold nothing named by numbers behind the heap. -/
theorem RowsIn.apart {w : World} {B E : Nat} {v : Value} {s : StD} (h : RowsIn w v s B E) : ∃ g0 g1 g2 g3, Rows4 w v s g0 g1 g2 g3 ∧ (B ≤ g0 ∧ B ≤ g1 ∧ B ≤ g2 ∧ B ≤ g3) ∧ ((0 < s.pods.length → g0 < E) ∧ (0 < s.mnts.length → g1 < E) ∧ (0 < s.devs.length → g2 < E) ∧ (0 < s.lks.length → g3 < E)) ∧
    ∀ b, b < w.heap.size → (b = g0 ∨ b = g1 ∨ b = g2 ∨ b = g3) → B ≤ b ∧ b < E := by
  obtain ⟨g0, g1, g2, g3, R, ⟨b0, b1, b2, b3⟩, e0, e1, e2, e3⟩ := h.it
  obtain ⟨⟨A0, A1, A2, A3, c0, c1, c2, c3, hv, a0, a1, a2, a3⟩, z0, R0, z1, R1, z2, R2, z3, R3, d01, d02, d03, d12, d13, d23⟩ := R
  obtain ⟨h0, p0, q0⟩ := if_pick (n := s.pods.length) (g := g0) (m := w.heap.size + B)
  obtain ⟨h1, p1, q1⟩ := if_pick (n := s.mnts.length) (g := g1) (m := w.heap.size + B + 1)
  obtain ⟨h2, p2, q2⟩ := if_pick (n := s.devs.length) (g := g2) (m := w.heap.size + B + 2)
  obtain ⟨h3, p3, q3⟩ := if_pick (n := s.lks.length) (g := g3) (m := w.heap.size + B + 3)
  have k0 : B ≤ h0 := by by_cases hn : 0 < s.pods.length <;> simp [p0, q0, hn] <;> omega
  have k1 : B ≤ h1 := by by_cases hn : 0 < s.mnts.length <;> simp [p1, q1, hn] <;> omega
  have k2 : B ≤ h2 := by by_cases hn : 0 < s.devs.length <;> simp [p2, q2, hn] <;> omega
  have k3 : B ≤ h3 := by by_cases hn : 0 < s.lks.length <;> simp [p3, q3, hn] <;> omega
  refine ⟨h0, h1, h2, h3, ⟨⟨A0, A1, A2, A3, c0, c1, c2, c3, hv, fun h => by rw [p0 h]; exact a0 h, fun h => by rw [p1 h]; exact a1 h, fun h => by rw [p2 h]; exact a2 h, fun h => by rw [p3 h]; exact a3 h⟩,
    fun h => by rw [p0 h]; exact z0 h, row_pick R0 p0 (podCs_len _), fun h => by rw [p1 h]; exact z1 h, row_pick R1 p1 (mntCs_len _), fun h => by rw [p2 h]; exact z2 h, row_pick R2 p2 (devCs_len _), fun h => by rw [p3 h]; exact z3 h, row_pick R3 p3 (lkCs_len _), ?_, ?_, ?_, ?_, ?_, ?_⟩,
    ⟨k0, k1, k2, k3⟩, ⟨fun h => by rw [p0 h]; exact e0 h, fun h => by rw [p1 h]; exact e1 h, fun h => by rw [p2 h]; exact e2 h, fun h => by rw [p3 h]; exact e3 h⟩, ?_⟩
  all_goals
    by_cases n0 : 0 < s.pods.length <;> by_cases n1 : 0 < s.mnts.length <;> by_cases n2 : 0 < s.devs.length <;> by_cases n3 : 0 < s.lks.length <;>
      simp only [n0, n1, n2, n3, true_implies, not_true_eq_false, not_false_eq_true, false_implies] at p0 q0 p1 q1 p2 q2 p3 q3 z0 z1 z2 z3 e0 e1 e2 e3 <;> (try intro b hb hor) <;> omega
theorem Keeps.into {S S' : Nat → Prop} {w w' : World} (k : Keeps S w w') (h : ∀ b, b < w.heap.size → S b → S' b) : Keeps S' w w' := ⟨k.os, k.tape, k.output, k.size, fun b hb hn => k.block b hb fun hs => hn (h b hb hs)⟩
theorem markIn_any (v : Value) (s : StD) (B E : Nat) (k : Int) (w : World) (h : RowsIn w v s B E) (hf : StFits s 1048576) (hk0 : 0 ≤ k) (hk1 : k + totS s ≤ 8388608) :
    Calls Try.prog 18 #[v, .int .i64 k] w fun e w' => e = .returned (.int .i64 (k + totS s)) ∧ RowsIn w' v (markS k s) B E ∧ Keeps (fun b => B ≤ b ∧ b < E) w w' := by
  obtain ⟨g0, g1, g2, g3, R, bs, es, hs⟩ := h.apart
  refine (markState_any v s g0 g1 g2 g3 k w R hf hk0 hk1).mono ?_
  rintro e w' ⟨he, R', k'⟩
  exact ⟨he, ⟨g0, g1, g2, g3, R', bs, by simpa [markS, mkPods_len, mkMnts_len, mkDevs_len, mkLks_len] using es⟩, k'.into hs⟩
theorem heldIn_any (v : Value) (s : StD) (B E : Nat) (k : Int) (w : World) (h : RowsIn w v (markS k s) B E) (hf : StFits s 1048576) (hk0 : 0 ≤ k) (hk1 : k + totS s ≤ 8388608) :
    Calls Try.prog 19 #[v, .int .i64 k] w fun e w' => e = .returned (.int .i64 (k + totS s)) ∧ Below w.heap.size w w' := by
  obtain ⟨g0, g1, g2, g3, R, -⟩ := h.it
  exact heldState_any v s g0 g1 g2 g3 k w R hf hk0 hk1
theorem fits_tot {s : StD} (hf : StFits s 1048576) : totS s ≤ 6291456 := by
  obtain ⟨f0, f1, f2, f3⟩ := hf
  unfold totS
  omega
end Go.Proofs.Ytaafbneaibklkaa
