/-
  Bytes and records where they lie: read, and the call's own.
-/
import Derived.Test.YtlmjjkljkmalpaaMGxA3
import Derived.Test.YtlmjjkljkmalpaaMGxRa
/- Ba -/
set_option linter.unusedVariables false
namespace Go.Proofs.Ytlmjjkljkmalpaa
open Go.RowKit

/-! Bytes. -/
def byteV (b : Nat) : Value := .int .u8 (b : Int)
def SmallB (L : List Nat) : Prop := ∀ x ∈ L, x < 256
theorem SmallB.getD {L : List Nat} (h : SmallB L) (k : Nat) : L.getD k 0 < 256 := by
  by_cases hk : k < L.length
  · rw [List.getD_eq_getElem?_getD, List.getElem?_eq_getElem hk]; exact h _ (List.getElem_mem _)
  · rw [List.getD_eq_getElem?_getD, List.getElem?_eq_none (by omega)]; simp
theorem SmallB.drop {L : List Nat} (h : SmallB L) (k : Nat) : SmallB (L.drop k) := fun x hx => h x (List.mem_of_mem_drop hx)
theorem SmallB.take {L : List Nat} (h : SmallB L) (k : Nat) : SmallB (L.take k) := fun x hx => h x (List.mem_of_mem_take hx)
/-- A slice of the bytes L, lying below block B. -/
structure Bt (w : World) (B : Nat) (v : Value) (L : List Nat) : Prop where
  it : ∃ A c, v = .slice A L.length c ∧ L.length ≤ c ∧ (0 < L.length → ∃ b off, A = some ⟨b, off, none⟩ ∧ b < B ∧ ∀ j, j < L.length → w.cell? ⟨b, off + j, none⟩ = some (.int .u8 (L.getD j 0 : Nat)))
  len : L.length ≤ maxLen
  small : SmallB L
theorem Bt.below {w w' : World} {B B' : Nat} {v : Value} {L : List Nat} (h : Bt w B v L) (hb : Below B' w w') (hB : B ≤ B') : Bt w' B v L := by
  obtain ⟨⟨A, c, rfl, hcap, hc⟩, hl, hs⟩ := h
  refine ⟨⟨A, c, rfl, hcap, fun hn => ?_⟩, hl, hs⟩
  obtain ⟨b, off, rfl, hlt, hc⟩ := hc hn
  exact ⟨b, off, rfl, hlt, fun j hj => (hb.cell (p := ⟨b, off + j, none⟩) (by show b < B'; omega)).trans (hc j hj)⟩
theorem Bt.more {w : World} {B B' : Nat} {v : Value} {L : List Nat} (h : Bt w B v L) (hB : B ≤ B') : Bt w B' v L := by
  obtain ⟨⟨A, c, rfl, hcap, hc⟩, hl, hs⟩ := h
  refine ⟨⟨A, c, rfl, hcap, fun hn => ?_⟩, hl, hs⟩
  obtain ⟨b, off, rfl, hlt, hc⟩ := hc hn
  exact ⟨b, off, rfl, by omega, hc⟩
theorem Bt.go {w w' : World} {v : Value} {L : List Nat} (h : Bt w w.heap.size v L) (hb : Below w.heap.size w w') : Bt w' w'.heap.size v L := (h.below hb (Nat.le_refl _)).more hb.size
theorem Bt.cell {w : World} {B : Nat} {A : Option Addr} {n c : Nat} {L : List Nat} (h : Bt w B (.slice A n c) L) {k : Nat} (hk : k < L.length) :
    ∃ b off, A = some ⟨b, off, none⟩ ∧ b < B ∧ w.cell? ⟨b, off + k, none⟩ = some (.int .u8 (L.getD k 0 : Nat)) := by
  obtain ⟨⟨A', c', hv, hcap, hc⟩, hl, hs⟩ := h
  injection hv with h1 _ _
  subst h1
  obtain ⟨b, off, e, hlt, hc⟩ := hc (by omega)
  exact ⟨b, off, e, hlt, hc k hk⟩
theorem getD_drop (L : List Nat) (k j : Nat) : (L.drop k).getD j 0 = L.getD (k + j) 0 := by simp [List.getD]
theorem Bt.drop {w : World} {B : Nat} {A : Option Addr} {n c : Nat} {L : List Nat} (h : Bt w B (.slice A n c) L) {k : Nat} (hk : k ≤ L.length) :
    Bt w B (.slice (if c = k then A else A.map (·.add k)) (n - k) (c - k)) (L.drop k) := by
  obtain ⟨⟨A', c1, hv, hcap, hc⟩, hl, hs⟩ := h
  injection hv with h1 h2 h3
  subst h1 h2 h3
  refine ⟨⟨_, c - k, by rw [List.length_drop], by rw [List.length_drop]; omega, fun hn => ?_⟩, by rw [List.length_drop]; omega, hs.drop k⟩
  rw [List.length_drop] at hn
  obtain ⟨b, off, rfl, hlt, hc⟩ := hc (by omega)
  rw [if_neg (by omega)]
  have ha : (⟨b, off, none⟩ : Addr).add k = ⟨b, off + k, none⟩ := by unfold Addr.add; split <;> simp_all
  refine ⟨b, off + k, by simp [ha], hlt, fun j hj => ?_⟩
  rw [List.length_drop] at hj
  rw [getD_drop, Nat.add_assoc]
  exact hc (k + j) (by omega)
theorem Bt.nil (w : World) (B : Nat) (A : Option Addr) (c : Nat) : Bt w B (.slice A 0 c) [] := ⟨⟨A, c, rfl, Nat.zero_le _, fun h => absurd h (Nat.lt_irrefl _)⟩, Nat.zero_le _, fun x hx => by cases hx⟩
theorem Bt.take {w : World} {B : Nat} {A : Option Addr} {n c : Nat} {L : List Nat} (h : Bt w B (.slice A n c) L) {k : Nat} (hk : k ≤ L.length) {c' : Nat} (hc' : k ≤ c') :
    Bt w B (.slice A k c') (L.take k) := by
  obtain ⟨⟨A', c1, hv, hcap, hc⟩, hl, hs⟩ := h
  injection hv with h1 h2 h3
  subst h1
  refine ⟨⟨A, c', by rw [List.length_take, Nat.min_eq_left hk], by rw [List.length_take]; omega, fun hn => ?_⟩, by rw [List.length_take]; omega, hs.take k⟩
  rw [List.length_take] at hn
  obtain ⟨b, off, rfl, hlt, hc⟩ := hc (by omega)
  refine ⟨b, off, rfl, hlt, fun j hj => ?_⟩
  rw [List.length_take] at hj
  have : (L.take k).getD j 0 = L.getD j 0 := by simp [List.getD, show j < k by omega]
  rw [this]
  exact hc j (by omega)

/-- A row of bytes of the call's own. -/
structure OB (w : World) (B : Nat) (v : Value) (L : List Nat) : Prop where
  own : w.ownsRow B 5 1 v L.length (L.map byteV)
  small : SmallB L
theorem OB.below {w w' : World} {B : Nat} {v : Value} {L : List Nat} (h : OB w B v L) (hb : Below w.heap.size w w') : OB w' B v L := ⟨ownsRow_below h.own hb, h.small⟩
theorem OB.base {w : World} {B B' : Nat} {v : Value} {L : List Nat} (h : OB w B v L) (hb : B' ≤ B) : OB w B' v L := ⟨ownsRow_base h.own hb, h.small⟩
theorem OB.lt {w : World} {B : Nat} {v : Value} {L : List Nat} (h : OB w B v L) {r : Nat} (hr : v.ownBlock = some r) : B ≤ r ∧ r < w.heap.size := World.ownsRow.lt h.own r hr
theorem OB.len {w : World} {B : Nat} {v : Value} {L : List Nat} (h : OB w B v L) : L.length ≤ maxLen := by
  rcases h.own.2 with ⟨_, h0⟩ | ⟨g, cap, cur, _, _, _, hnc, hcm, _⟩
  · rw [h0]; exact Nat.zero_le _
  · exact Nat.le_trans hnc hcm
/-! Records. -/
def flat (l : List RecD) : List Int := l.flatMap fun r => [r.k, r.a, r.b]
theorem flat_cons (r : RecD) (l : List RecD) : flat (r :: l) = r.k :: r.a :: r.b :: flat l := rfl
def recAt (l : List RecD) (i : Nat) : RecD := l.getD i ⟨0, 0, 0⟩
def cellR (l : List RecD) (j : Nat) : Int := (flat l).getD j 0
theorem cellR_at (l : List RecD) (i : Nat) : cellR l (i * 3) = (recAt l i).k ∧ cellR l (i * 3 + 1) = (recAt l i).a ∧ cellR l (i * 3 + 2) = (recAt l i).b := by
  unfold cellR recAt
  induction l generalizing i with
  | nil => simp [flat]
  | cons r l ih =>
    cases i with
    | zero => exact ⟨rfl, rfl, rfl⟩
    | succ i =>
      have := ih i
      rw [flat_cons, show (i + 1) * 3 = i * 3 + 1 + 1 + 1 by omega, show i * 3 + 1 + 1 + 1 + 1 = (i * 3 + 1) + 1 + 1 + 1 by omega, show i * 3 + 1 + 1 + 1 + 2 = (i * 3 + 2) + 1 + 1 + 1 by omega]
      simpa only [List.getD_cons_succ] using this
/-- A slice of the records l, lying below block B. -/
structure Rt (w : World) (B : Nat) (v : Value) (l : List RecD) : Prop where
  it : ∃ A c, v = .slice A l.length c ∧ Sl w B 3 A l.length (cellR l)
  len : l.length ≤ maxLen
theorem Rt.below {w w' : World} {B B' : Nat} {v : Value} {l : List RecD} (h : Rt w B v l) (hb : Below B' w w') (hB : B ≤ B') : Rt w' B v l := by
  obtain ⟨⟨A, c, rfl, hc⟩, hl⟩ := h
  exact ⟨⟨A, c, rfl, hc.below hb hB⟩, hl⟩
theorem Rt.more {w : World} {B B' : Nat} {v : Value} {l : List RecD} (h : Rt w B v l) (hB : B ≤ B') : Rt w B' v l := by
  obtain ⟨⟨A, c, rfl, hc⟩, hl⟩ := h
  exact ⟨⟨A, c, rfl, hc.more hB⟩, hl⟩
theorem Rt.go {w w' : World} {v : Value} {l : List RecD} (h : Rt w w.heap.size v l) (hb : Below w.heap.size w w') : Rt w' w'.heap.size v l := (h.below hb (Nat.le_refl _)).more hb.size
theorem Sl.cell3 {w : World} {B n : Nat} {A : Option Addr} {x : Nat → Int} (h : Sl w B 3 A n x) {i : Nat} (hi : i < n) : ∃ b off, A = some ⟨b, off, none⟩ ∧ b < B ∧
    w.cell? ⟨b, off + i * 3, none⟩ = some (.int .i64 (x (i * 3))) ∧ w.cell? ⟨b, off + i * 3 + 1, none⟩ = some (.int .i64 (x (i * 3 + 1))) ∧ w.cell? ⟨b, off + i * 3 + 2, none⟩ = some (.int .i64 (x (i * 3 + 2))) := by
  obtain ⟨b, off, rfl, hb, hc⟩ := h (by omega)
  exact ⟨b, off, rfl, hb, hc _ (by omega), by rw [Nat.add_assoc]; exact hc _ (by omega), by rw [Nat.add_assoc]; exact hc _ (by omega)⟩
theorem Rt.cell {w : World} {B : Nat} {A : Option Addr} {n c : Nat} {l : List RecD} (h : Rt w B (.slice A n c) l) {i : Nat} (hi : i < l.length) : ∃ b off, A = some ⟨b, off, none⟩ ∧ b < B ∧
    w.cell? ⟨b, off + i * 3, none⟩ = some (.int .i64 (recAt l i).k) ∧ w.cell? ⟨b, off + i * 3 + 1, none⟩ = some (.int .i64 (recAt l i).a) ∧ w.cell? ⟨b, off + i * 3 + 2, none⟩ = some (.int .i64 (recAt l i).b) := by
  obtain ⟨⟨A', c', hv, hc⟩, hl⟩ := h
  injection hv with h1 _ _
  subst h1
  obtain ⟨e1, e2, e3⟩ := cellR_at l i
  have := hc.cell3 hi
  rwa [e1, e2, e3] at this
end Go.Proofs.Ytlmjjkljkmalpaa
