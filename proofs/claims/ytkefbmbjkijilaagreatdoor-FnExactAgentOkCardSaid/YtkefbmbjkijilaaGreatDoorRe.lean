/-
  Agents of the call's own, list by list: marks set in all of them, and found again.
-/
import Derived.Test.YtkefbmbjkijilaaGreatDoorRd
import Derived.Test.YtkefbmbjkijilaaGreatDoorMZ19
set_option linter.unusedVariables false
namespace Go.Proofs.YtkefbmbjkijilaaGreatDoor
open Go.RowKit

theorem pos_mul {n k : Nat} (h : 0 < n * k) : 0 < n := Nat.pos_of_ne_zero fun e => by subst e; simp at h
/-- A row of whole numbers that can be written; where it holds something, it has a block. -/
def PRow (w : World) (v : Value) (n k : Nat) (x : Nat → Int) : Prop :=
  ∃ A c g, v = .slice A n c ∧ (0 < n → A = some ⟨g, 0, none⟩) ∧ (0 < n → g < w.heap.size) ∧ RowF w g (n * k) x
/-- The block of a list that holds something. -/
def LBlk (v : Value) (n b : Nat) : Prop := v.ownBlock = some b ∧ 0 < n
theorem PRow.at_ {w : World} {v : Value} {n k b : Nat} {x : Nat → Int} (h : PRow w v n k x) (hb : LBlk v n b) : b < w.heap.size := by
  obtain ⟨A, c, g, rfl, hA, hg, -⟩ := h
  have e := hb.1
  rw [hA hb.2] at e
  obtain rfl : g = b := by simpa [Value.ownBlock] using e
  exact hg hb.2
theorem PRow.go {w w' : World} {v : Value} {n k : Nat} {x : Nat → Int} (h : PRow w v n k x) (hb : Below w.heap.size w w') : PRow w' v n k x := by
  obtain ⟨A, c, g, hv, hA, hg, R⟩ := h
  exact ⟨A, c, g, hv, hA, fun hn => Nat.lt_of_lt_of_le (hg hn) hb.size, R.go (fun h => hg (pos_mul h)) hb⟩
theorem PRow.keeps {S : Nat → Prop} {w w' : World} {v : Value} {n k : Nat} {x : Nat → Int} (h : PRow w v n k x) (kk : Keeps S w w') (hS : ∀ b, LBlk v n b → ¬ S b) : PRow w' v n k x := by
  obtain ⟨A, c, g, hv, hA, hg, R⟩ := h
  exact ⟨A, c, g, hv, hA, fun hn => Nat.lt_of_lt_of_le (hg hn) kk.size, R.goK (fun h => hg (pos_mul h)) kk fun h => hS g ⟨by rw [hv, hA (pos_mul h)]; rfl, pos_mul h⟩⟩
theorem PRow.sl {w : World} {v : Value} {n k : Nat} {x : Nat → Int} (h : PRow w v n k x) : ∃ A c, v = .slice A n c ∧ Sl w w.heap.size k A n x := by
  obtain ⟨A, c, g, hv, hA, hg, R⟩ := h
  exact ⟨A, c, hv, fun hn => ⟨g, 0, hA hn, hg hn, fun j hj => by rw [Nat.zero_add]; exact (R j hj).1⟩⟩
theorem OI.prow {w : World} {B e k n : Nat} {v : Value} {x : Nat → Int} (h : OI w B e k v n x) : PRow w v n k x := by
  obtain ⟨xs, ho, hx⟩ := h
  obtain ⟨A, c, g, hv, hA, -, -, hg, R, -, -⟩ := open_row ho
  have hl := ho.1
  exact ⟨A, c, g, hv, hA, hg, fun j hj => by rw [← hx j hj]; exact R j (by omega)⟩
theorem RowF.prow {w : World} {g n k : Nat} {x : Nat → Int} (R : RowF w g (n * k) x) (hg : g < w.heap.size) (c : Nat) : PRow w (.slice (some ⟨g, 0, none⟩) n c) n k x := ⟨_, c, g, rfl, fun _ => rfl, fun _ => hg, R⟩

/-- A row of bytes that can be written. -/
def URow (w : World) (v : Value) (n : Nat) (x : Nat → Int) : Prop :=
  ∃ A c g, v = .slice A n c ∧ n ≤ c ∧ (0 < n → A = some ⟨g, 0, none⟩) ∧ (0 < n → g < w.heap.size) ∧ RowU w g n x
theorem RowU.keeps {S : Nat → Prop} {w w' : World} {g N : Nat} {x : Nat → Int} (h : RowU w g N x) (k : Keeps S w w') (hg : 0 < N → g < w.heap.size) (hn : 0 < N → ¬ S g) : RowU w' g N x := fun j hj =>
  ⟨(k.cell (p := ⟨g, j, none⟩) (hg (by omega)) (hn (by omega))).trans (h j hj).1, (k.frozen (p := ⟨g, j, none⟩) (hg (by omega)) (hn (by omega))).trans (h j hj).2⟩
theorem URow.at_ {w : World} {v : Value} {n b : Nat} {x : Nat → Int} (h : URow w v n x) (hb : LBlk v n b) : b < w.heap.size := by
  obtain ⟨A, c, g, rfl, -, hA, hg, -⟩ := h
  have e := hb.1
  rw [hA hb.2] at e
  obtain rfl : g = b := by simpa [Value.ownBlock] using e
  exact hg hb.2
theorem URow.go {w w' : World} {v : Value} {n : Nat} {x : Nat → Int} (h : URow w v n x) (hb : Below w.heap.size w w') : URow w' v n x := by
  obtain ⟨A, c, g, hv, hc, hA, hg, R⟩ := h
  exact ⟨A, c, g, hv, hc, hA, fun hn => Nat.lt_of_lt_of_le (hg hn) hb.size, R.go hg hb⟩
theorem URow.keeps {S : Nat → Prop} {w w' : World} {v : Value} {n : Nat} {x : Nat → Int} (h : URow w v n x) (kk : Keeps S w w') (hS : ∀ b, LBlk v n b → ¬ S b) : URow w' v n x := by
  obtain ⟨A, c, g, hv, hc, hA, hg, R⟩ := h
  exact ⟨A, c, g, hv, hc, hA, fun hn => Nat.lt_of_lt_of_le (hg hn) kk.size, RowU.keeps R kk hg fun h => hS g ⟨by rw [hv, hA h]; rfl, h⟩⟩
theorem URow.bt {w : World} {v : Value} {st : List Nat} (h : URow w v st.length (fun j => (st.getD j 0 : Nat))) (hl : st.length ≤ maxLen) (hs : SmallB st) : Bt w w.heap.size v st := by
  obtain ⟨A, c, g, hv, hc, hA, hg, R⟩ := h
  exact ⟨⟨A, c, hv, hc, fun hn => ⟨g, 0, hA hn, hg hn, fun j hj => by rw [Nat.zero_add]; exact (R j hj).1⟩⟩, hl, hs⟩
theorem OB.urow {w : World} {B : Nat} {v : Value} {st : List Nat} (h : OB w B v st) : URow w v st.length (fun j => (st.getD j 0 : Nat)) := by
  obtain ⟨A, c, g, hv, hA, hc, -, hg, R, -, -⟩ := open_row h.own
  refine ⟨A, c, g, hv, hc, hA, hg, fun j hj => ?_⟩
  have := R j (by simpa using hj)
  rw [byteV_get hj] at this
  exact this
theorem rowU_nil (w : World) (g : Nat) (x : Nat → Int) : RowU w g 0 x := fun j hj => absurd hj (by omega)
theorem rowF_nil (w : World) (g : Nat) (x : Nat → Int) : RowF w g 0 x := fun j hj => absurd hj (by omega)
theorem keep_off {S : Nat → Prop} {w w' : World} (k : Keeps (· = w.heap.size) w w') : Keeps S w w' := keep_none k

theorem markPodS_p (v : Value) (n : Nat) (k0 : Int) (x : Nat → Int) (w : World) (h : PRow w v n 4 x) (hn : n ≤ 1048576) (h0 : 0 ≤ k0) (h1 : k0 ≤ 8388608) :
    Calls Tryz.prog 47 #[v, .int .i64 k0] w fun e w' => e = .returned (.int .i64 (k0 + 4 * n)) ∧ PRow w' v n 4 (fun j => k0 + j) ∧ Keeps (LBlk v n) w w' := by
  obtain ⟨A, c, g, rfl, hA, hg, R⟩ := h
  by_cases hp : 0 < n
  · refine (markPodS_row A n c g k0 x w hA R hn h0 h1).mono fun e w' hh => ⟨hh.1, ⟨A, c, g, rfl, hA, fun h => Nat.lt_of_lt_of_le (hg h) hh.2.2.size, hh.2.1⟩, hh.2.2.mono fun b hb => ⟨by rw [hA hp, hb]; rfl, hp⟩⟩
  · obtain rfl : n = 0 := by omega
    refine (markPodS_row A 0 c w.heap.size k0 x w (fun h => absurd h (by omega)) (by rw [Nat.zero_mul]; exact rowF_nil _ _ _) hn h0 h1).mono fun e w' hh => ⟨hh.1, ⟨A, c, g, rfl, hA, fun h => absurd h (by omega), by rw [Nat.zero_mul]; exact rowF_nil _ _ _⟩, keep_off hh.2.2⟩
theorem markMountS_p (v : Value) (n : Nat) (k0 : Int) (x : Nat → Int) (w : World) (h : PRow w v n 2 x) (hn : n ≤ 1048576) (h0 : 0 ≤ k0) (h1 : k0 ≤ 8388608) :
    Calls Tryz.prog 49 #[v, .int .i64 k0] w fun e w' => e = .returned (.int .i64 (k0 + 2 * n)) ∧ PRow w' v n 2 (fun j => k0 + j) ∧ Keeps (LBlk v n) w w' := by
  obtain ⟨A, c, g, rfl, hA, hg, R⟩ := h
  by_cases hp : 0 < n
  · refine (markMountS_row A n c g k0 x w hA R hn h0 h1).mono fun e w' hh => ⟨hh.1, ⟨A, c, g, rfl, hA, fun h => Nat.lt_of_lt_of_le (hg h) hh.2.2.size, hh.2.1⟩, hh.2.2.mono fun b hb => ⟨by rw [hA hp, hb]; rfl, hp⟩⟩
  · obtain rfl : n = 0 := by omega
    refine (markMountS_row A 0 c w.heap.size k0 x w (fun h => absurd h (by omega)) (by rw [Nat.zero_mul]; exact rowF_nil _ _ _) hn h0 h1).mono fun e w' hh => ⟨hh.1, ⟨A, c, g, rfl, hA, fun h => absurd h (by omega), by rw [Nat.zero_mul]; exact rowF_nil _ _ _⟩, keep_off hh.2.2⟩
theorem markDeviceS_p (v : Value) (n : Nat) (k0 : Int) (x : Nat → Int) (w : World) (h : PRow w v n 1 x) (hn : n ≤ 1048576) (h0 : 0 ≤ k0) (h1 : k0 ≤ 8388608) :
    Calls Tryz.prog 50 #[v, .int .i64 k0] w fun e w' => e = .returned (.int .i64 (k0 + n)) ∧ PRow w' v n 1 (fun j => k0 + j) ∧ Keeps (LBlk v n) w w' := by
  obtain ⟨A, c, g, rfl, hA, hg, R⟩ := h
  by_cases hp : 0 < n
  · refine (markDeviceS_row A n c g k0 x w hA (by rwa [Nat.mul_one] at R) hn h0 h1).mono fun e w' hh => ⟨hh.1, ⟨A, c, g, rfl, hA, fun h => Nat.lt_of_lt_of_le (hg h) hh.2.2.size, by rw [Nat.mul_one]; exact hh.2.1⟩, hh.2.2.mono fun b hb => ⟨by rw [hA hp, hb]; rfl, hp⟩⟩
  · obtain rfl : n = 0 := by omega
    refine (markDeviceS_row A 0 c w.heap.size k0 x w (fun h => absurd h (by omega)) (rowF_nil _ _ _) hn h0 h1).mono fun e w' hh => ⟨hh.1, ⟨A, c, g, rfl, hA, fun h => absurd h (by omega), by rw [Nat.zero_mul]; exact rowF_nil _ _ _⟩, keep_off hh.2.2⟩
theorem markInt64S_p (v : Value) (n : Nat) (k0 : Int) (x : Nat → Int) (w : World) (h : PRow w v n 1 x) (hn : n ≤ 1048576) (h0 : 0 ≤ k0) (h1 : k0 ≤ 8388608) :
    Calls Tryz.prog 48 #[v, .int .i64 k0] w fun e w' => e = .returned (.int .i64 (k0 + n)) ∧ PRow w' v n 1 (fun j => k0 + j) ∧ Keeps (LBlk v n) w w' := by
  obtain ⟨A, c, g, rfl, hA, hg, R⟩ := h
  by_cases hp : 0 < n
  · refine (markInt64S_any A n c g k0 x w hA (by rwa [Nat.mul_one] at R) hn h0 h1).mono fun e w' hh => ⟨hh.1, ⟨A, c, g, rfl, hA, fun h => Nat.lt_of_lt_of_le (hg h) hh.2.2.size, by rw [Nat.mul_one]; exact hh.2.1⟩, hh.2.2.mono fun b hb => ⟨by rw [hA hp, hb]; rfl, hp⟩⟩
  · obtain rfl : n = 0 := by omega
    refine (markInt64S_any A 0 c w.heap.size k0 x w (fun h => absurd h (by omega)) (rowF_nil _ _ _) hn h0 h1).mono fun e w' hh => ⟨hh.1, ⟨A, c, g, rfl, hA, fun h => absurd h (by omega), by rw [Nat.zero_mul]; exact rowF_nil _ _ _⟩, keep_off hh.2.2⟩
theorem markByteS_p (v : Value) (n : Nat) (k0 : Int) (x : Nat → Int) (w : World) (h : URow w v n x) (hn : n ≤ 1048576) (h0 : 0 ≤ k0) (h1 : k0 ≤ 8388608) :
    Calls Tryz.prog 23 #[v, .int .i64 k0] w fun e w' => e = .returned (.int .i64 (k0 + n)) ∧ URow w' v n (markU k0) ∧ Keeps (LBlk v n) w w' := by
  obtain ⟨A, c, g, rfl, hc, hA, hg, R⟩ := h
  by_cases hp : 0 < n
  · refine (markByteS_any A n c g k0 x w hA R hn h0 h1).mono fun e w' hh => ⟨hh.1, ⟨A, c, g, rfl, hc, hA, fun h => Nat.lt_of_lt_of_le (hg h) hh.2.2.size, hh.2.1⟩, hh.2.2.mono fun b hb => ⟨by rw [hA hp, hb]; rfl, hp⟩⟩
  · obtain rfl : n = 0 := by omega
    refine (markByteS_any A 0 c w.heap.size k0 x w (fun h => absurd h (by omega)) (rowU_nil _ _ _) hn h0 h1).mono fun e w' hh => ⟨hh.1, ⟨A, c, g, rfl, hc, hA, fun h => absurd h (by omega), rowU_nil _ _ _⟩, keep_off hh.2.2⟩

/-- The four lists of a plan, in blocks of their own. -/
structure PlR (w : World) (v0 v1 v2 v3 : Value) (d : PlanD) : Prop where
  r0 : PRow w v0 d.n0 4 d.x0
  r1 : PRow w v1 d.n1 1 d.x1
  r2 : PRow w v2 d.n2 2 d.x2
  r3 : PRow w v3 d.n3 1 d.x3
  a01 : ∀ b, LBlk v0 d.n0 b → ¬ LBlk v1 d.n1 b
  a02 : ∀ b, LBlk v0 d.n0 b → ¬ LBlk v2 d.n2 b
  a03 : ∀ b, LBlk v0 d.n0 b → ¬ LBlk v3 d.n3 b
  a12 : ∀ b, LBlk v1 d.n1 b → ¬ LBlk v2 d.n2 b
  a13 : ∀ b, LBlk v1 d.n1 b → ¬ LBlk v3 d.n3 b
  a23 : ∀ b, LBlk v2 d.n2 b → ¬ LBlk v3 d.n3 b
/-- A block of a plan's. -/
def PBlk (v0 v1 v2 v3 : Value) (d : PlanD) (b : Nat) : Prop := LBlk v0 d.n0 b ∨ LBlk v1 d.n1 b ∨ LBlk v2 d.n2 b ∨ LBlk v3 d.n3 b
theorem PlR.at_ {w : World} {v0 v1 v2 v3 : Value} {d : PlanD} {b : Nat} (h : PlR w v0 v1 v2 v3 d) (hb : PBlk v0 v1 v2 v3 d b) : b < w.heap.size := by
  rcases hb with hb | hb | hb | hb
  · exact h.r0.at_ hb
  · exact h.r1.at_ hb
  · exact h.r2.at_ hb
  · exact h.r3.at_ hb
theorem PlR.go {w w' : World} {v0 v1 v2 v3 : Value} {d : PlanD} (h : PlR w v0 v1 v2 v3 d) (hb : Below w.heap.size w w') : PlR w' v0 v1 v2 v3 d :=
  ⟨h.r0.go hb, h.r1.go hb, h.r2.go hb, h.r3.go hb, h.a01, h.a02, h.a03, h.a12, h.a13, h.a23⟩
theorem PlR.keeps {S : Nat → Prop} {w w' : World} {v0 v1 v2 v3 : Value} {d : PlanD} (h : PlR w v0 v1 v2 v3 d) (k : Keeps S w w') (hS : ∀ b, PBlk v0 v1 v2 v3 d b → ¬ S b) : PlR w' v0 v1 v2 v3 d :=
  ⟨h.r0.keeps k fun b hb => hS b (.inl hb), h.r1.keeps k fun b hb => hS b (.inr (.inl hb)), h.r2.keeps k fun b hb => hS b (.inr (.inr (.inl hb))), h.r3.keeps k fun b hb => hS b (.inr (.inr (.inr hb))), h.a01, h.a02, h.a03, h.a12, h.a13, h.a23⟩
theorem PlR.is {w : World} {v0 v1 v2 v3 : Value} {d : PlanD} (h : PlR w v0 v1 v2 v3 d) (hf : PlFits d) : IsPlan w w.heap.size (.agg #[v0, v1, v2, v3, .int .i64 d.l, .int .i64 d.p, .int .i64 d.t]) d := by
  obtain ⟨A0, c0, rfl, s0⟩ := h.r0.sl
  obtain ⟨A1, c1, rfl, s1⟩ := h.r1.sl
  obtain ⟨A2, c2, rfl, s2⟩ := h.r2.sl
  obtain ⟨A3, c3, rfl, s3⟩ := h.r3.sl
  obtain ⟨f0, f1, f2, f3⟩ := hf
  have hm : 1048576 ≤ maxLen := by unfold maxLen; decide
  exact ⟨⟨_, _, _, _, _, _, _, _, rfl, s0, s1, s2, s3⟩, by omega, by omega, by omega, by omega⟩
theorem blk_type {w : World} {B B' e e' k k' n n' m m' b : Nat} {v v' : Value} {xs xs' : List Value} (h : w.ownsRow B e k v n xs) (h' : w.ownsRow B' e' k' v' n' xs') (hne : e ≠ e') (hb : LBlk v m b) (hb' : LBlk v' m' b) : False :=
  hne (row_type h h' hb.1 hb'.1)
theorem Lists.plr {w : World} {B : Nat} {v0 v1 v2 v3 : Value} {d : PlanD} (h : Lists w B v0 v1 v2 v3 d) : PlR w v0 v1 v2 v3 d := by
  obtain ⟨h0, h1, h2, h3⟩ := h
  have r0 := h0.prow
  have r1 := h1.prow
  have r2 := h2.prow
  have r3 := h3.prow
  obtain ⟨x0, o0, -⟩ := h0
  obtain ⟨x1, o1, -⟩ := h1
  obtain ⟨x2, o2, -⟩ := h2
  obtain ⟨x3, o3, -⟩ := h3
  exact ⟨r0, r1, r2, r3, fun b p q => blk_type o0 o1 (by decide) p q, fun b p q => blk_type o0 o2 (by decide) p q, fun b p q => blk_type o0 o3 (by decide) p q,
    fun b p q => blk_type o1 o2 (by decide) p q, fun b p q => blk_type o1 o3 (by decide) p q, fun b p q => blk_type o2 o3 (by decide) p q⟩
theorem blk_one {g n c m b : Nat} (h : LBlk (.slice (some ⟨g, 0, none⟩) n c) m b) : b = g := by
  have := h.1
  simpa [Value.ownBlock] using this.symm
theorem NewPlan.plr {w w' : World} {d : PlanD} {g0 g1 g2 g3 : Nat} (h : NewPlan w w' d g0 g1 g2 g3) :
    PlR w' (.slice (some ⟨g0, 0, none⟩) d.n0 d.n0) (.slice (some ⟨g1, 0, none⟩) d.n1 d.n1) (.slice (some ⟨g2, 0, none⟩) d.n2 d.n2) (.slice (some ⟨g3, 0, none⟩) d.n3 d.n3) d := by
  obtain ⟨l0, l1, l2, l3, l4, R0, R1, R2, R3⟩ := h
  exact ⟨R0.prow (by omega) _, RowF.prow (by rw [Nat.mul_one]; exact R1) (by omega) _, R2.prow (by omega) _, RowF.prow (by rw [Nat.mul_one]; exact R3) (by omega) _,
    fun b p q => by have := blk_one p; have := blk_one q; omega, fun b p q => by have := blk_one p; have := blk_one q; omega, fun b p q => by have := blk_one p; have := blk_one q; omega,
    fun b p q => by have := blk_one p; have := blk_one q; omega, fun b p q => by have := blk_one p; have := blk_one q; omega, fun b p q => by have := blk_one p; have := blk_one q; omega⟩
/-- How many marks a plan takes. -/
def totP (d : PlanD) : Nat := 4 * d.n0 + d.n1 + 2 * d.n2 + d.n3
/-- A plan marked. -/
def markP (k : Int) (d : PlanD) : PlanD := { d with
  x0 := fun j => k + j
  x1 := fun j => k + 4 * d.n0 + j
  x2 := fun j => k + 4 * d.n0 + d.n1 + j
  x3 := fun j => k + 4 * d.n0 + d.n1 + 2 * d.n2 + j }

set_option maxHeartbeats 4000000 in
theorem markPl_any (v0 v1 v2 v3 : Value) (d : PlanD) (k : Int) (w : World) (h : PlR w v0 v1 v2 v3 d) (hf : PlFits d) (hk0 : 0 ≤ k) (hk1 : k + totP d ≤ 8388608) :
    Calls Tryz.prog 16 #[.agg #[v0, v1, v2, v3, .int .i64 d.l, .int .i64 d.p, .int .i64 d.t], .int .i64 k] w fun e w' => e = .returned (.int .i64 (k + totP d)) ∧ PlR w' v0 v1 v2 v3 (markP k d) ∧ Keeps (PBlk v0 v1 v2 v3 d) w w' := by
  obtain ⟨r0, r1, r2, r3, a01, a02, a03, a12, a13, a23⟩ := h
  obtain ⟨f0, f1, f2, f3⟩ := hf
  obtain ⟨n0, n1, n2, n3, x0, x1, x2, x3, l, p, t⟩ := d
  unfold totP at hk1 ⊢
  unfold markP
  dsimp only at *
  have P0 : ∀ b, LBlk v0 n0 b → PBlk v0 v1 v2 v3 ⟨n0, n1, n2, n3, x0, x1, x2, x3, l, p, t⟩ b := fun b hb => .inl hb
  have P1 : ∀ b, LBlk v1 n1 b → PBlk v0 v1 v2 v3 ⟨n0, n1, n2, n3, x0, x1, x2, x3, l, p, t⟩ b := fun b hb => .inr (.inl hb)
  have P2 : ∀ b, LBlk v2 n2 b → PBlk v0 v1 v2 v3 ⟨n0, n1, n2, n3, x0, x1, x2, x3, l, p, t⟩ b := fun b hb => .inr (.inr (.inl hb))
  have P3 : ∀ b, LBlk v3 n3 b → PBlk v0 v1 v2 v3 ⟨n0, n1, n2, n3, x0, x1, x2, x3, l, p, t⟩ b := fun b hb => .inr (.inr (.inr hb))
  generalize PBlk v0 v1 v2 v3 ⟨n0, n1, n2, n3, x0, x1, x2, x3, l, p, t⟩ = PB at *
  have Q0 := Lib.hid P0
  have Q1 := Lib.hid P1
  have Q2 := Lib.hid P2
  have Q3 := Lib.hid P3
  have Z0 : Hid (∀ b, LBlk v0 n0 b → b < w.heap.size) := Lib.hid fun b hb => r0.at_ hb
  have Z1 : Hid (∀ b, LBlk v1 n1 b → b < w.heap.size) := Lib.hid fun b hb => r1.at_ hb
  have Z2 : Hid (∀ b, LBlk v2 n2 b → b < w.heap.size) := Lib.hid fun b hb => r2.at_ hb
  have Z3 : Hid (∀ b, LBlk v3 n3 b → b < w.heap.size) := Lib.hid fun b hb => r3.at_ hb
  have A01 := Lib.hid a01
  have A02 := Lib.hid a02
  have A03 := Lib.hid a03
  have A12 := Lib.hid a12
  have A13 := Lib.hid a13
  have A23 := Lib.hid a23
  have X := Own.box w #[v0, v1, v2, v3, .int .i64 l, .int .i64 p, .int .i64 t] 42
  have R0 := Lib.hid (r0.go X.K)
  have R1 := Lib.hid (r1.go X.K)
  have R2 := Lib.hid (r2.go X.K)
  have R3 := Lib.hid (r3.go X.K)
  have KK : Keeps PB w _ := Keeps.of_below X.K
  have hC := X.C
  have hsz := X.z
  clear X r0 r1 r2 r3 a01 a02 a03 a12 a13 a23 P0 P1 P2 P3
  go_enter Tryz.func16, Tryz.ntmps16
  go_wp2_with fail
  generalize w.alloc (.cells #[v0, v1, v2, v3, .int .i64 l, .int .i64 p, .int .i64 t] 42) = w1 at *
  refine (markPodS_p v0 n0 k x0 w1 R0.out f0 (by omega) (by omega)).mono ?_
  rintro e w2 ⟨rfl, r0, kk⟩
  clear R0
  have R0 := Lib.hid r0
  replace R1 := Lib.hid (R1.out.keeps kk fun b p q => A01.out b q p)
  replace R2 := Lib.hid (R2.out.keeps kk fun b p q => A02.out b q p)
  replace R3 := Lib.hid (R3.out.keeps kk fun b p q => A03.out b q p)
  replace hC := fun o => (kk.cell (p := ⟨w.heap.size, o, none⟩) hsz (fun h => absurd (Z0.out _ h) (Nat.lt_irrefl _))).trans (hC o)
  replace KK := KK.trans (kk.mono Q0.out)
  replace hsz := Nat.lt_of_lt_of_le hsz kk.size
  clear kk r0
  go_wp2_with fail
  refine (markInt64S_p v1 n1 (k + 4 * (n0 : Int)) x1 w2 R1.out f1 (by omega) (by omega)).mono ?_
  rintro e w3 ⟨rfl, r1, kk⟩
  clear R1
  have R1 := Lib.hid r1
  replace R0 := Lib.hid (R0.out.keeps kk fun b p q => A01.out b p q)
  replace R2 := Lib.hid (R2.out.keeps kk fun b p q => A12.out b q p)
  replace R3 := Lib.hid (R3.out.keeps kk fun b p q => A13.out b q p)
  replace hC := fun o => (kk.cell (p := ⟨w.heap.size, o, none⟩) hsz (fun h => absurd (Z1.out _ h) (Nat.lt_irrefl _))).trans (hC o)
  replace KK := KK.trans (kk.mono Q1.out)
  replace hsz := Nat.lt_of_lt_of_le hsz kk.size
  clear kk r1
  go_wp2_with fail
  refine (markMountS_p v2 n2 (k + 4 * (n0 : Int) + n1) x2 w3 R2.out f2 (by omega) (by omega)).mono ?_
  rintro e w4 ⟨rfl, r2, kk⟩
  clear R2
  have R2 := Lib.hid r2
  replace R0 := Lib.hid (R0.out.keeps kk fun b p q => A02.out b p q)
  replace R1 := Lib.hid (R1.out.keeps kk fun b p q => A12.out b p q)
  replace R3 := Lib.hid (R3.out.keeps kk fun b p q => A23.out b q p)
  replace hC := fun o => (kk.cell (p := ⟨w.heap.size, o, none⟩) hsz (fun h => absurd (Z2.out _ h) (Nat.lt_irrefl _))).trans (hC o)
  replace KK := KK.trans (kk.mono Q2.out)
  replace hsz := Nat.lt_of_lt_of_le hsz kk.size
  clear kk r2
  go_wp2_with fail
  refine (markDeviceS_p v3 n3 (k + 4 * (n0 : Int) + n1 + 2 * (n2 : Int)) x3 w4 R3.out f3 (by omega) (by omega)).mono ?_
  rintro e w5 ⟨rfl, r3, kk⟩
  clear R3
  have R3 := Lib.hid r3
  replace R0 := Lib.hid (R0.out.keeps kk fun b p q => A03.out b p q)
  replace R1 := Lib.hid (R1.out.keeps kk fun b p q => A13.out b p q)
  replace R2 := Lib.hid (R2.out.keeps kk fun b p q => A23.out b p q)
  replace KK := KK.trans (kk.mono Q3.out)
  clear kk r3 hC hsz
  go_wp2_with fail
  go_ret
  refine ⟨?_, ⟨R0.out, R1.out, R2.out, R3.out, A01.out, A02.out, A03.out, A12.out, A13.out, A23.out⟩, KK⟩
  show Ending.returned (Value.int .i64 _) = _
  congr 2
  push_cast
  omega
set_option maxHeartbeats 4000000 in
theorem heldPl_any (v0 v1 v2 v3 : Value) (d : PlanD) (k : Int) (w : World) (h : PlR w v0 v1 v2 v3 (markP k d)) (hf : PlFits d) (hk0 : 0 ≤ k) (hk1 : k + totP d ≤ 8388608) :
    Calls Tryz.prog 52 #[.agg #[v0, v1, v2, v3, .int .i64 d.l, .int .i64 d.p, .int .i64 d.t], .int .i64 k] w fun e w' => e = .returned (.int .i64 (k + totP d)) ∧ Below w.heap.size w w' := by
  obtain ⟨r0, r1, r2, r3, -, -, -, -, -, -⟩ := h
  obtain ⟨f0, f1, f2, f3⟩ := hf
  obtain ⟨n0, n1, n2, n3, x0, x1, x2, x3, l, p, t⟩ := d
  unfold totP at hk1 ⊢
  unfold markP at *
  dsimp only at *
  have X := Own.box w #[v0, v1, v2, v3, .int .i64 l, .int .i64 p, .int .i64 t] 42
  obtain ⟨A0, c0, g0, rfl, a0, -, R0⟩ := r0.go X.K
  obtain ⟨A1, c1, g1, rfl, a1, -, R1⟩ := r1.go X.K
  obtain ⟨A2, c2, g2, rfl, a2, -, R2⟩ := r2.go X.K
  obtain ⟨A3, c3, g3, rfl, a3, -, R3⟩ := r3.go X.K
  rw [Nat.mul_one] at R1 R3
  have H0 := Lib.hid R0
  have H1 := Lib.hid R1
  have H2 := Lib.hid R2
  have H3 := Lib.hid R3
  have B0 := Lib.hid a0
  have B1 := Lib.hid a1
  have B2 := Lib.hid a2
  have B3 := Lib.hid a3
  have K := X.K
  have hC := X.C
  clear X r0 r1 r2 r3 R0 R1 R2 R3 a0 a1 a2 a3
  go_enter Tryz.func52, Tryz.ntmps52
  go_wp2_with fail
  generalize w.alloc (.cells #[.slice A0 n0 c0, .slice A1 n1 c1, .slice A2 n2 c2, .slice A3 n3 c3, .int .i64 l, .int .i64 p, .int .i64 t] 42) = w1 at *
  refine (heldPodS_row A0 n0 c0 g0 k w1 B0.out H0.out f0 (by omega) (by omega)).mono ?_
  rintro e w2 ⟨rfl, rfl⟩
  go_wp2_with fail
  refine (heldInt64S_row A1 n1 c1 g1 (k + 4 * (n0 : Int)) w1 B1.out H1.out f1 (by omega) (by omega)).mono ?_
  rintro e w2 ⟨rfl, rfl⟩
  go_wp2_with fail
  refine (heldMountS_row A2 n2 c2 g2 (k + 4 * (n0 : Int) + n1) w1 B2.out H2.out f2 (by omega) (by omega)).mono ?_
  rintro e w2 ⟨rfl, rfl⟩
  go_wp2_with fail
  refine (heldDeviceS_row A3 n3 c3 g3 (k + 4 * (n0 : Int) + n1 + 2 * (n2 : Int)) w1 B3.out H3.out f3 (by omega) (by omega)).mono ?_
  rintro e w2 ⟨rfl, rfl⟩
  go_wp2_with fail
  go_ret
  refine ⟨?_, K⟩
  show Ending.returned (Value.int .i64 _) = _
  congr 2
  push_cast
  omega
end Go.Proofs.YtkefbmbjkijilaaGreatDoor
