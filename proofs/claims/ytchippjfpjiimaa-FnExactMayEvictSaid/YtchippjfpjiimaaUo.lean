/-
  The model's NewState.
-/
import Derived.Test.YtchippjfpjiimaaUn
import Derived.Test.YtchippjfpjiimaaPd
import Derived.Test.YtchippjfpjiimaaUh
import Derived.Deep.DeepCutAuto
set_option linter.unusedVariables false
namespace Go.Proofs.Ytchippjfpjiimaa
open Go.RowKit

theorem made_at_ (z : Array Value) (n : Nat) (xs : List Value) (hl : xs.length = n) (h : ∀ j, j < n → xs[j]? = some (z[j % z.size]!)) : madeCells z n = xs.toArray := by
  apply Array.ext
  · simp [madeCells, hl]
  · intro k h1 h2
    have hk : k < n := by simpa [madeCells] using h1
    have := h k hk
    simp [madeCells]
    rw [List.getElem?_eq_getElem (by omega)] at this
    injection this with this
    exact this.symm
theorem made_pods (n : Nat) : madeCells (Value.agg #[.int .i64 0, .int .i64 0]).cells (n * 2) = (podCs (List.replicate n (0, 0))).toArray := by
  refine made_at_ _ _ _ (by rw [podCs_len]; simp) fun j hj => ?_
  have hz : (Value.agg #[.int .i64 0, .int .i64 0]).cells = #[.int .i64 0, .int .i64 0] := rfl
  have hp := podCs_at (List.replicate n (0, 0)) (i := j / 2) (by simp; omega)
  have ha : podA (List.replicate n (0, 0)) (j / 2) = (0, 0) := by unfold podA; rw [List.getD, List.getElem?_replicate]; split <;> rfl
  rw [ha] at hp
  rw [hz]
  rcases Nat.mod_two_eq_zero_or_one j with h | h
  · have e : j = j / 2 * 2 := by omega
    have := hp.1
    rw [← e] at this
    rw [this]
    simp [h]
  · have e : j = j / 2 * 2 + 1 := by omega
    have := hp.2
    rw [← e] at this
    rw [this]
    simp [h]
theorem made_mnts (n : Nat) : madeCells (Value.agg #[.bool false, .int .i64 0]).cells (n * 2) = (mntCs (List.replicate n (false, 0))).toArray := by
  refine made_at_ _ _ _ (by rw [mntCs_len]; simp) fun j hj => ?_
  have hz : (Value.agg #[.bool false, .int .i64 0]).cells = #[.bool false, .int .i64 0] := rfl
  have hp := mntCs_at (List.replicate n (false, 0)) (i := j / 2) (by simp; omega)
  have ha : mntA (List.replicate n (false, 0)) (j / 2) = (false, 0) := by unfold mntA; rw [List.getD, List.getElem?_replicate]; split <;> rfl
  rw [ha] at hp
  rw [hz]
  rcases Nat.mod_two_eq_zero_or_one j with h | h
  · have e : j = j / 2 * 2 := by omega
    have := hp.1
    rw [← e] at this
    rw [this]
    simp [h]
  · have e : j = j / 2 * 2 + 1 := by omega
    have := hp.2
    rw [← e] at this
    rw [this]
    simp [h]
theorem made_devs (n : Nat) : madeCells (Value.bool false).cells n = (devCs (List.replicate n false)).toArray := by
  refine made_at_ _ _ _ (by simp [devCs]) fun j hj => ?_
  have hz : (Value.bool false).cells = #[.bool false] := rfl
  rw [devCs_at _ (by simpa using hj), hz]
  have : devA (List.replicate n false) j = false := by unfold devA; rw [List.getD, List.getElem?_replicate]; split <;> rfl
  rw [this]
  simp [Nat.mod_one]

theorem alloc_here {W : World} {o : Obj} {g : Nat} (hg : W.heap.size = g) : (W.alloc o).heap[g]? = some o := by
  subst hg
  exact heap_alloc_new W o
theorem alloc_there {W : World} {o : Obj} {g : Nat} (hg : g < W.heap.size) : (W.alloc o).heap[g]? = W.heap[g]? := ((Below.refl W.heap.size W).alloc (Nat.le_refl _) o).block g hg

theorem own_of_heap {w : World} {B e k n g : Nat} {xs : List Value} {cur : Array Value} (hh : w.heap[g]? = some (.cells cur e)) (hc : cur = xs.toArray) (hl : xs.length = n * k) (hb : B ≤ g) (hn : n ≤ maxLen) :
    w.ownsRow B e k (.slice (some ⟨g, 0, none⟩) n n) n xs := ⟨hl, .inr ⟨g, n, cur, rfl, hb, hh, Nat.le_refl _, hn, by subst hc; simp [hl], by subst hc; simp [← hl]⟩⟩
/-- A new state being made. -/
structure NewB (w wr : World) (g0 g1 g2 g3 n0 n2 n3 : Nat) (L1 : List (Bool × Int)) (L2 : List Bool) : Prop where
  l1 : L1.length = n2
  l2 : L2.length = n3
  S : Own w wr g3 (stC (some ⟨g0, 0, none⟩) (some ⟨g1, 0, none⟩) (some ⟨g2, 0, none⟩) none n0 n0 n2 n2 n3 n3 0 0 0 false 0 0 0 0 0 0)
  O : Own w wr (w.heap.size + 1) (stC none none none none 0 0 0 0 0 0 0 0 0 false 0 0 0 0 0 0)
  r0 : wr.ownsRow (w.heap.size + 2) 63 2 (.slice (some ⟨g0, 0, none⟩) n0 n0) n0 (podCs (List.replicate n0 (0, 0)))
  r1 : wr.ownsRow (w.heap.size + 2) 96 2 (.slice (some ⟨g1, 0, none⟩) n2 n2) n2 (mntCs L1)
  r2 : wr.ownsRow (w.heap.size + 2) 4 1 (.slice (some ⟨g2, 0, none⟩) n3 n3) n3 (devCs L2)
theorem mntCs_put (l : List (Bool × Int)) {i : Nat} (hi : i < l.length) (b : Bool) : (mntCs l).set (i * 2) (.bool b) = mntCs (l.set i (b, (mntA l i).2)) := by
  rw [mntCs_set l hi]
  have h := (mntCs_at l hi).2
  have hl : i * 2 + 1 < (mntCs l).length := by rw [mntCs_len]; omega
  apply List.ext_getElem?
  intro k
  by_cases e : k = i * 2 + 1
  · subst e
    rw [List.getElem?_set_self (by simpa using hl), List.getElem?_set_ne (by omega), h]
  · rw [List.getElem?_set_ne (i := i * 2 + 1) (by omega)]
theorem NewB.put1 {w wr : World} {g0 g1 g2 g3 n0 n2 n3 : Nat} {L1 : List (Bool × Int)} {L2 : List Bool} (h : NewB w wr g0 g1 g2 g3 n0 n2 n3 L1 L2) (d0 : g0 ≠ g1) (d2 : g1 ≠ g2) (d3 : g1 ≠ g3) (hg : w.heap.size + 1 < g1) {i : Nat} (hi : i < n2) :
    NewB w (wr.setCell ⟨g1, i * 2, none⟩ (.bool true)) g0 g1 g2 g3 n0 n2 n3 (L1.set i (true, (mntA L1 i).2)) L2 := by
  have hl := h.l1
  obtain ⟨s1, s2⟩ := h.r1.stored (i * 2) (.bool true)
  refine ⟨by rw [List.length_set]; exact hl, h.l2, h.S.grown s2 fun r hr => by injection hr; omega, h.O.grown s2 fun r hr => by injection hr; omega, h.r0.kept s2 (.inr fun e => ?_), by rw [← mntCs_put L1 (by omega)]; exact s1, h.r2.kept s2 (.inr fun e => ?_)⟩
  · have : g0 = g1 := by simpa [Value.ownBlock] using e
    omega
  · have : g2 = g1 := by simpa [Value.ownBlock] using e
    omega
theorem NewB.put2 {w wr : World} {g0 g1 g2 g3 n0 n2 n3 : Nat} {L1 : List (Bool × Int)} {L2 : List Bool} (h : NewB w wr g0 g1 g2 g3 n0 n2 n3 L1 L2) (d0 : g0 ≠ g2) (d2 : g1 ≠ g2) (d3 : g2 ≠ g3) (hg : w.heap.size + 1 < g2) {i : Nat} (hi : i < n3) :
    NewB w (wr.setCell ⟨g2, i, none⟩ (.bool true)) g0 g1 g2 g3 n0 n2 n3 L1 (L2.set i true) := by
  have hl := h.l2
  obtain ⟨s1, s2⟩ := h.r2.stored i (.bool true)
  refine ⟨h.l1, by rw [List.length_set]; exact hl, h.S.grown s2 fun r hr => by injection hr; omega, h.O.grown s2 fun r hr => by injection hr; omega, h.r0.kept s2 (.inr fun e => ?_), h.r1.kept s2 (.inr fun e => ?_), by rw [devCs_set]; exact s1⟩
  · have : g0 = g2 := by simpa [Value.ownBlock] using e
    omega
  · have : g1 = g2 := by simpa [Value.ownBlock] using e
    omega
theorem NewB.step {w wr w2 : World} {g0 g1 g2 g3 n0 n2 n3 : Nat} {L1 : List (Bool × Int)} {L2 : List Bool} (h : NewB w wr g0 g1 g2 g3 n0 n2 n3 L1 L2) (hb : Below wr.heap.size wr w2) : NewB w w2 g0 g1 g2 g3 n0 n2 n3 L1 L2 :=
  ⟨h.l1, h.l2, h.S.step hb, h.O.step hb, ownsRow_below h.r0 hb, ownsRow_below h.r1 hb, ownsRow_below h.r2 hb⟩
theorem all_set {L : List (Bool × Int)} {n k : Nat} (hL : ∀ j, j < n → L[j]? = some (decide (j < k), 0)) (hl : L.length = n) (hk : k < n) : ∀ j, j < n → (L.set k (true, (mntA L k).2))[j]? = some (decide (j < k + 1), 0) := by
  intro j hj
  by_cases e : j = k
  · subst e
    have ha : mntA L j = (decide (j < j), 0) := by unfold mntA; rw [List.getD, hL j hj]; rfl
    rw [List.getElem?_set_self (by omega), ha]
    simp
  · rw [List.getElem?_set_ne (fun h => e h.symm), hL j hj]
    have : (j < k) = (j < k + 1) := propext ⟨fun h => by omega, fun h => by omega⟩
    simp only [this]
theorem all_set2 {L : List Bool} {n k : Nat} (hL : ∀ j, j < n → L[j]? = some (decide (j < k))) (hl : L.length = n) (hk : k < n) : ∀ j, j < n → (L.set k true)[j]? = some (decide (j < k + 1)) := by
  intro j hj
  by_cases e : j = k
  · subst e
    rw [List.getElem?_set_self (by omega)]
    simp
  · rw [List.getElem?_set_ne (fun h => e h.symm), hL j hj]
    have : (j < k) = (j < k + 1) := propext ⟨fun h => by omega, fun h => by omega⟩
    simp only [this]
theorem all_done {α : Type} {L : List α} {n : Nat} {f : Nat → α} {a : α} (hL : ∀ j, j < n → L[j]? = some (f j)) (hf : ∀ j, j < n → f j = a) (hl : L.length = n) : L = List.replicate n a := by
  apply List.ext_getElem?
  intro j
  by_cases hj : j < n
  · rw [hL j hj, hf j hj, List.getElem?_replicate, if_pos hj]
  · rw [List.getElem?_eq_none (by omega), List.getElem?_replicate, if_neg hj]

end Go.Proofs.Ytchippjfpjiimaa
