/-
  Marks in a whole state.
-/
import Derived.Test.YtchippjfpjiimaaUe
set_option linter.unusedVariables false
namespace Go.Proofs.Ytchippjfpjiimaa
open Go.RowKit

theorem RowV.keepsC {S : Nat → Prop} {w w' : World} {g : Nat} {xs : List Value} (h : RowV w g xs) (k : Keeps S w w') (hg : 0 < xs.length → g < w.heap.size) (hn : ¬ S g) : RowV w' g xs := fun j hj => RowV.keeps h k (hg (by omega)) hn j hj
/-- A state whose four lists lie in blocks of their own, all writable. -/
structure Rows4 (w : World) (v : Value) (s : StD) (g0 g1 g2 g3 : Nat) : Prop where
  val : ∃ A0 A1 A2 A3 c0 c1 c2 c3, v = .agg (stC A0 A1 A2 A3 s.pods.length c0 s.mnts.length c1 s.devs.length c2 s.lks.length c3 s.ph s.co s.ck s.bo s.ba s.lb s.gd s.pr) ∧
    (0 < s.pods.length → A0 = some ⟨g0, 0, none⟩) ∧ (0 < s.mnts.length → A1 = some ⟨g1, 0, none⟩) ∧ (0 < s.devs.length → A2 = some ⟨g2, 0, none⟩) ∧ (0 < s.lks.length → A3 = some ⟨g3, 0, none⟩)
  z0 : 0 < s.pods.length → g0 < w.heap.size
  R0 : RowV w g0 (podCs s.pods)
  z1 : 0 < s.mnts.length → g1 < w.heap.size
  R1 : RowV w g1 (mntCs s.mnts)
  z2 : 0 < s.devs.length → g2 < w.heap.size
  R2 : RowV w g2 (devCs s.devs)
  z3 : 0 < s.lks.length → g3 < w.heap.size
  R3 : RowV w g3 (lkCs s.lks)
  d01 : g0 ≠ g1
  d02 : g0 ≠ g2
  d03 : g0 ≠ g3
  d12 : g1 ≠ g2
  d13 : g1 ≠ g3
  d23 : g2 ≠ g3
theorem NewSt.rows {w w' : World} {s : StD} {g0 g1 g2 g3 : Nat} (h : NewSt w w' s g0 g1 g2 g3) : Rows4 w' (newStV s g0 g1 g2 g3) s g0 g1 g2 g3 := by
  obtain ⟨l0, l1, l2, l3, l4, R0, R1, R2, R3⟩ := h
  exact { val := ⟨_, _, _, _, _, _, _, _, rfl, fun _ => rfl, fun _ => rfl, fun _ => rfl, fun _ => rfl⟩, z0 := fun _ => by omega, z1 := fun _ => by omega, z2 := fun _ => by omega, z3 := fun _ => by omega, R0 := R0, R1 := R1, R2 := R2, R3 := R3, d01 := by omega, d02 := by omega, d03 := by omega, d12 := by omega, d13 := by omega, d23 := by omega }
theorem row_type {w : World} {B B' e e' k k' n n' g : Nat} {v v' : Value} {xs xs' : List Value} (h : w.ownsRow B e k v n xs) (h' : w.ownsRow B' e' k' v' n' xs') (hv : v.ownBlock = some g) (hv' : v'.ownBlock = some g) : e = e' := by
  rcases h.2 with ⟨rfl, _⟩ | ⟨g1, c1, cur1, rfl, _, hh1, _⟩
  · simp [Value.ownBlock] at hv
  · rcases h'.2 with ⟨rfl, _⟩ | ⟨g2, c2, cur2, rfl, _, hh2, _⟩
    · simp [Value.ownBlock] at hv'
    · obtain rfl : g1 = g := by simpa [Value.ownBlock] using hv
      obtain rfl : g2 = g1 := by simpa [Value.ownBlock] using hv'
      rw [hh1] at hh2
      injection hh2 with hh2
      injection hh2 with _ h2 _
/-- A row of the call's own, its block named; a number of choice where it has none. -/
theorem row_named {w : World} {B e k n : Nat} {v : Value} {xs : List Value} (h : w.ownsRow B e k v n xs) (hB : B ≤ w.heap.size) (m : Nat) (hm : w.heap.size ≤ m) :
    ∃ A c g, v = .slice A n c ∧ (0 < n → A = some ⟨g, 0, none⟩) ∧ B ≤ g ∧ (0 < n → g < w.heap.size) ∧ RowV w g xs ∧ ((v.ownBlock = some g ∧ g < w.heap.size) ∨ g = m) := by
  obtain ⟨A, c, g, hv, hA, hnc, hb, hg, hR, hS, hx⟩ := open_row h
  by_cases hn : 0 < n
  · refine ⟨A, c, g, hv, hA, hb, hg, hR, .inl ⟨?_, hg hn⟩⟩
    rw [hv, hA hn]
    rfl
  · refine ⟨A, c, m, hv, fun h => absurd h hn, by omega, fun h => absurd h hn, fun j hj => ?_, .inr rfl⟩
    have := h.1
    obtain rfl : n = 0 := by omega
    omega
theorem OwnSt.rows {w : World} {B : Nat} {v : Value} {s : StD} (h : OwnSt w B v s) (hB : B ≤ w.heap.size) : ∃ g0 g1 g2 g3, Rows4 w v s g0 g1 g2 g3 ∧ B ≤ g0 ∧ B ≤ g1 ∧ B ≤ g2 ∧ B ≤ g3 := by
  obtain ⟨v0, v1, v2, v3, rfl, h0, h1, h2, h3⟩ := h.it
  obtain ⟨A0, c0, g0, e0, a0, b0, z0, R0, o0⟩ := row_named h0 hB (w.heap.size + 0) (by omega)
  obtain ⟨A1, c1, g1, e1, a1, b1, z1, R1, o1⟩ := row_named h1 hB (w.heap.size + 1) (by omega)
  obtain ⟨A2, c2, g2, e2, a2, b2, z2, R2, o2⟩ := row_named h2 hB (w.heap.size + 2) (by omega)
  obtain ⟨A3, c3, g3, e3, a3, b3, z3, R3, o3⟩ := row_named h3 hB (w.heap.size + 3) (by omega)
  have d01 : g0 ≠ g1 := fun e => by
    rcases o0 with ⟨p, q⟩ | p
    · rcases o1 with ⟨p', q'⟩ | p'
      · exact absurd (row_type h0 h1 p (by rw [e]; exact p')) (by decide)
      · omega
    · rcases o1 with ⟨p', q'⟩ | p'
      · omega
      · omega
  have d02 : g0 ≠ g2 := fun e => by
    rcases o0 with ⟨p, q⟩ | p
    · rcases o2 with ⟨p', q'⟩ | p'
      · exact absurd (row_type h0 h2 p (by rw [e]; exact p')) (by decide)
      · omega
    · rcases o2 with ⟨p', q'⟩ | p'
      · omega
      · omega
  have d03 : g0 ≠ g3 := fun e => by
    rcases o0 with ⟨p, q⟩ | p
    · rcases o3 with ⟨p', q'⟩ | p'
      · exact absurd (row_type h0 h3 p (by rw [e]; exact p')) (by decide)
      · omega
    · rcases o3 with ⟨p', q'⟩ | p'
      · omega
      · omega
  have d12 : g1 ≠ g2 := fun e => by
    rcases o1 with ⟨p, q⟩ | p
    · rcases o2 with ⟨p', q'⟩ | p'
      · exact absurd (row_type h1 h2 p (by rw [e]; exact p')) (by decide)
      · omega
    · rcases o2 with ⟨p', q'⟩ | p'
      · omega
      · omega
  have d13 : g1 ≠ g3 := fun e => by
    rcases o1 with ⟨p, q⟩ | p
    · rcases o3 with ⟨p', q'⟩ | p'
      · exact absurd (row_type h1 h3 p (by rw [e]; exact p')) (by decide)
      · omega
    · rcases o3 with ⟨p', q'⟩ | p'
      · omega
      · omega
  have d23 : g2 ≠ g3 := fun e => by
    rcases o2 with ⟨p, q⟩ | p
    · rcases o3 with ⟨p', q'⟩ | p'
      · exact absurd (row_type h2 h3 p (by rw [e]; exact p')) (by decide)
      · omega
    · rcases o3 with ⟨p', q'⟩ | p'
      · omega
      · omega
  subst e0 e1 e2 e3
  exact ⟨g0, g1, g2, g3, { val := ⟨A0, A1, A2, A3, c0, c1, c2, c3, rfl, a0, a1, a2, a3⟩, z0 := z0, z1 := z1, z2 := z2, z3 := z3, R0 := R0, R1 := R1, R2 := R2, R3 := R3, d01 := d01, d02 := d02, d03 := d03, d12 := d12, d13 := d13, d23 := d23 }, b0, b1, b2, b3⟩
theorem keep_none {S : Nat → Prop} {w w' : World} (k : Keeps (· = w.heap.size) w w') : Keeps S w w' := ⟨k.os, k.tape, k.output, k.size, fun b hb _ => k.block b hb (by omega)⟩
theorem rowv_nil (w : World) (g : Nat) : RowV w g [] := fun j hj => by simp at hj
theorem Rows4.go {w w' : World} {v : Value} {s : StD} {g0 g1 g2 g3 : Nat} (h : Rows4 w v s g0 g1 g2 g3) (hb : Below w.heap.size w w') : Rows4 w' v s g0 g1 g2 g3 := by
  obtain ⟨hv, z0, R0, z1, R1, z2, R2, z3, R3, d01, d02, d03, d12, d13, d23⟩ := h
  exact ⟨hv, fun h => Nat.lt_of_lt_of_le (z0 h) hb.size, R0.go (fun h => z0 (by rw [podCs_len] at h; omega)) hb, fun h => Nat.lt_of_lt_of_le (z1 h) hb.size, R1.go (fun h => z1 (by rw [mntCs_len] at h; omega)) hb,
    fun h => Nat.lt_of_lt_of_le (z2 h) hb.size, R2.go (fun h => z2 (by rw [devCs_len] at h; omega)) hb, fun h => Nat.lt_of_lt_of_le (z3 h) hb.size, R3.go (fun h => z3 (by rw [lkCs_len] at h; omega)) hb, d01, d02, d03, d12, d13, d23⟩

/-- How many marks a state takes. -/
def totS (s : StD) : Nat := 2 * s.pods.length + 2 * s.mnts.length + s.devs.length + s.lks.length
/-- A state marked. -/
def markS (k : Int) (s : StD) : StD := { s with
  pods := mkPods k s.pods.length
  mnts := mkMnts (k + 2 * s.pods.length) s.mnts.length
  devs := mkDevs (k + 2 * s.pods.length + 2 * s.mnts.length) s.devs.length
  lks := mkLks (k + 2 * s.pods.length + 2 * s.mnts.length + s.devs.length) s.lks.length }
theorem totS_mark (k : Int) (s : StD) : totS (markS k s) = totS s := by simp [totS, markS, mkPods_len, mkMnts_len, mkDevs_len, mkLks_len]
theorem fits_mark {k : Int} {s : StD} {m : Nat} (h : StFits s m) : StFits (markS k s) m := ⟨by simp [markS, mkPods_len, h.f0], by simp [markS, mkMnts_len, h.f1], by simp [markS, mkDevs_len, h.f2], by simp [markS, mkLks_len, h.f3]⟩
end Go.Proofs.Ytchippjfpjiimaa
