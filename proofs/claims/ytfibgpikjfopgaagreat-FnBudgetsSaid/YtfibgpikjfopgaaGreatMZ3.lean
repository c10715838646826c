/-
  Chapter 2: a pod's band, a pod's time, the releasing's time; PodsOf, the program's and the model's, each answers the same list.
-/
import Derived.Test.YtfibgpikjfopgaaGreatMZ0
import Derived.Test.YtfibgpikjfopgaaGreatMZ1
import Derived.Deep.AppendLies
import Derived.Deep.RegionHeld3
import Derived.OwnWalk
import Derived.Deep.RegionLaw
import Derived.StillTailTactics
import Derived.Sort.Row
import Derived.RegionTactic
import Derived.BigRegion
import Derived.Lib.SliceRun
/- Ba -/
set_option linter.unusedVariables false
namespace Go.Proofs.YtfibgpikjfopgaaGreat
open Go.RowKit

theorem info_u8 : (Tryz.prog.info? 5).map (fun i => (i.zero, i.size, i.bytes)) = some (some (.int .u8 0), 1, 1) := by kernel_rfl
theorem info_rec : (Tryz.prog.info? 51).map (fun i => (i.zero, i.size, i.bytes)) = some (some (.agg #[.int .i64 0, .int .i64 0, .int .i64 0]), 3, 24) := by kernel_rfl

/-! Bytes. -/
def byteV (b : Nat) : Value := .int .u8 (b : Int)
def SmallB (L : List Nat) : Prop := ∀ x ∈ L, x < 256
theorem SmallB.getD {L : List Nat} (h : SmallB L) (k : Nat) : L.getD k 0 < 256 := by
  by_cases hk : k < L.length
  · rw [List.getD_eq_getElem?_getD, List.getElem?_eq_getElem hk]; exact h _ (List.getElem_mem _)
  · rw [List.getD_eq_getElem?_getD, List.getElem?_eq_none (by omega)]; simp
theorem SmallB.drop {L : List Nat} (h : SmallB L) (k : Nat) : SmallB (L.drop k) := fun x hx => h x (List.mem_of_mem_drop hx)
theorem SmallB.take {L : List Nat} (h : SmallB L) (k : Nat) : SmallB (L.take k) := fun x hx => h x (List.mem_of_mem_take hx)
theorem SmallB.append {L M : List Nat} (h : SmallB L) (h' : SmallB M) : SmallB (L ++ M) := fun x hx => (List.mem_append.1 hx).elim (h x) (h' x)

/-- A slice of the bytes L, lying below block B. -/
structure Bt (w : World) (B : Nat) (v : Value) (L : List Nat) : Prop where
  it : ∃ A c, v = .slice A L.length c ∧ L.length ≤ c ∧ (0 < L.length → ∃ b off, A = some ⟨b, off, none⟩ ∧ b < B ∧ ∀ j, j < L.length → w.cell? ⟨b, off + j, none⟩ = some (.int .u8 (L.getD j 0 : Nat)))
  len : L.length ≤ maxLen
  small : SmallB L
theorem Bt.below {w w' : World} {B B' : Nat} {v : Value} {L : List Nat} (h : Bt w B v L) (hb : Below B' w w') (hB : B ≤ B') : Bt w' B v L := by
  obtain ⟨⟨A, c, rfl, hcap, hc⟩, hl, hs⟩ := h
  refine ⟨⟨A, c, rfl, hcap, fun hn => ?_⟩, hl, hs⟩
  obtain ⟨b, off, rfl, hlt, hc⟩ := hc hn
  exact ⟨b, off, rfl, hlt, fun j hj => (hb.cell (p := ⟨b, off + j, none⟩) (by show b < B'; omega)).trans (hc j hj)⟩
theorem Bt.more {w : World} {B B' : Nat} {v : Value} {L : List Nat} (h : Bt w B v L) (hB : B ≤ B') : Bt w B' v L := by
  obtain ⟨⟨A, c, rfl, hcap, hc⟩, hl, hs⟩ := h
  refine ⟨⟨A, c, rfl, hcap, fun hn => ?_⟩, hl, hs⟩
  obtain ⟨b, off, rfl, hlt, hc⟩ := hc hn
  exact ⟨b, off, rfl, by omega, hc⟩
theorem Bt.go {w w' : World} {v : Value} {L : List Nat} (h : Bt w w.heap.size v L) (hb : Below w.heap.size w w') : Bt w' w'.heap.size v L := (h.below hb (Nat.le_refl _)).more hb.size
theorem Bt.cell {w : World} {B : Nat} {A : Option Addr} {n c : Nat} {L : List Nat} (h : Bt w B (.slice A n c) L) {k : Nat} (hk : k < L.length) :
    ∃ b off, A = some ⟨b, off, none⟩ ∧ b < B ∧ w.cell? ⟨b, off + k, none⟩ = some (.int .u8 (L.getD k 0 : Nat)) := by
  obtain ⟨⟨A', c', hv, hcap, hc⟩, hl, hs⟩ := h
  injection hv with h1 _ _
  subst h1
  obtain ⟨b, off, e, hlt, hc⟩ := hc (by omega)
  exact ⟨b, off, e, hlt, hc k hk⟩
theorem getD_drop (L : List Nat) (k j : Nat) : (L.drop k).getD j 0 = L.getD (k + j) 0 := by simp [List.getD]
theorem Bt.drop {w : World} {B : Nat} {A : Option Addr} {n c : Nat} {L : List Nat} (h : Bt w B (.slice A n c) L) {k : Nat} (hk : k ≤ L.length) :
    Bt w B (.slice (if c = k then A else A.map (·.add k)) (n - k) (c - k)) (L.drop k) := by
  obtain ⟨⟨A', c1, hv, hcap, hc⟩, hl, hs⟩ := h
  injection hv with h1 h2 h3
  subst h1 h2 h3
  refine ⟨⟨_, c - k, by rw [List.length_drop], by rw [List.length_drop]; omega, fun hn => ?_⟩, by rw [List.length_drop]; omega, hs.drop k⟩
  rw [List.length_drop] at hn
  obtain ⟨b, off, rfl, hlt, hc⟩ := hc (by omega)
  rw [if_neg (by omega)]
  have ha : (⟨b, off, none⟩ : Addr).add k = ⟨b, off + k, none⟩ := by unfold Addr.add; split <;> simp_all
  refine ⟨b, off + k, by simp [ha], hlt, fun j hj => ?_⟩
  rw [List.length_drop] at hj
  rw [getD_drop, Nat.add_assoc]
  exact hc (k + j) (by omega)
theorem Bt.nil (w : World) (B : Nat) (A : Option Addr) (c : Nat) : Bt w B (.slice A 0 c) [] := ⟨⟨A, c, rfl, Nat.zero_le _, fun h => absurd h (Nat.lt_irrefl _)⟩, Nat.zero_le _, fun x hx => by cases hx⟩
theorem Bt.drop_at {w : World} {B : Nat} {b off n c k : Nat} {A : Option Addr} {L : List Nat} (h : Bt w B (.slice (some ⟨b, off, none⟩) n c) L) (hk : k ≤ n) (hA : c ≠ k → A = some ⟨b, off + k, none⟩) :
    Bt w B (.slice A (n - k) (c - k)) (L.drop k) := by
  have hn : n = L.length ∧ n ≤ c := by
    obtain ⟨⟨A', c1, hv, hcap, hc⟩, hl, hs⟩ := h
    injection hv with h1 h2 h3
    subst h2 h3
    exact ⟨rfl, hcap⟩
  have := h.drop (k := k) (by omega)
  by_cases e : c = k
  · have e0 : L.drop k = [] := List.drop_eq_nil_of_le (by omega)
    rw [e0]
    have : n - k = 0 := by omega
    rw [this]
    exact Bt.nil _ _ _ _
  · rw [hA e]
    rw [if_neg e] at this
    have ha : (⟨b, off, none⟩ : Addr).add k = ⟨b, off + k, none⟩ := by unfold Addr.add; split <;> simp_all
    simpa [ha] using this
theorem Bt.take {w : World} {B : Nat} {A : Option Addr} {n c : Nat} {L : List Nat} (h : Bt w B (.slice A n c) L) {k : Nat} (hk : k ≤ L.length) {c' : Nat} (hc' : k ≤ c') :
    Bt w B (.slice A k c') (L.take k) := by
  obtain ⟨⟨A', c1, hv, hcap, hc⟩, hl, hs⟩ := h
  injection hv with h1 h2 h3
  subst h1
  refine ⟨⟨A, c', by rw [List.length_take, Nat.min_eq_left hk], by rw [List.length_take]; omega, fun hn => ?_⟩, by rw [List.length_take]; omega, hs.take k⟩
  rw [List.length_take] at hn
  obtain ⟨b, off, rfl, hlt, hc⟩ := hc (by omega)
  refine ⟨b, off, rfl, hlt, fun j hj => ?_⟩
  rw [List.length_take] at hj
  have : (L.take k).getD j 0 = L.getD j 0 := by simp [List.getD, show j < k by omega]
  rw [this]
  exact hc j (by omega)

/-- A row of bytes of the call's own. -/
structure OB (w : World) (B : Nat) (v : Value) (L : List Nat) : Prop where
  own : w.ownsRow B 5 1 v L.length (L.map byteV)
  small : SmallB L
theorem OB.below {w w' : World} {B : Nat} {v : Value} {L : List Nat} (h : OB w B v L) (hb : Below w.heap.size w w') : OB w' B v L := ⟨ownsRow_below h.own hb, h.small⟩
theorem OB.base {w : World} {B B' : Nat} {v : Value} {L : List Nat} (h : OB w B v L) (hb : B' ≤ B) : OB w B' v L := ⟨ownsRow_base h.own hb, h.small⟩
theorem OB.lt {w : World} {B : Nat} {v : Value} {L : List Nat} (h : OB w B v L) {r : Nat} (hr : v.ownBlock = some r) : B ≤ r ∧ r < w.heap.size := World.ownsRow.lt h.own r hr
theorem OB.nil_ (w : World) (B : Nat) : OB w B (.slice none 0 0) [] := ⟨World.ownsRow_nil _ _ _ _, fun x hx => by cases hx⟩
theorem OB.len {w : World} {B : Nat} {v : Value} {L : List Nat} (h : OB w B v L) : L.length ≤ maxLen := by
  rcases h.own.2 with ⟨_, h0⟩ | ⟨g, cap, cur, _, _, _, hnc, hcm, _⟩
  · rw [h0]; exact Nat.zero_le _
  · exact Nat.le_trans hnc hcm
theorem OB.empty {w : World} {B : Nat} (hB : B ≤ w.heap.size) : OB (w.alloc (.cells #[] 5)) B (.slice (some ⟨w.heap.size, 0, none⟩) 0 0) [] := by
  have := World.ownsRow_made (base := w.heap.size) (e := 5) (size := 1) w #[] 0 (by simp) (Nat.zero_le _) rfl
  exact ⟨ownsRow_base (by simpa using this) hB, fun x hx => by cases hx⟩
theorem byteV_get {L : List Nat} {j : Nat} (hj : j < L.length) : (L.map byteV)[j]? = some (.int .u8 (L.getD j 0 : Nat)) := by simp [byteV, List.getD, hj]
theorem OB.open_ {w : World} {B : Nat} {v : Value} {L : List Nat} (h : OB w B v L) :
    ∃ A c g, v = .slice A L.length c ∧ L.length ≤ c ∧ (0 < L.length → A = some ⟨g, 0, none⟩) ∧ B ≤ g ∧ (0 < L.length → g < w.heap.size) ∧ (∀ j, j < L.length → w.cell? ⟨g, j, none⟩ = some (.int .u8 (L.getD j 0 : Nat)) ∧ w.frozen? ⟨g, j, none⟩ = false) := by
  rcases h.own.2 with ⟨rfl, h0⟩ | ⟨g, cap, cur, rfl, hb, hh, hnc, _⟩
  · exact ⟨none, 0, B, by rw [h0], by omega, fun h => by omega, Nat.le_refl _, fun h => by omega, fun j hj => by omega⟩
  · refine ⟨_, cap, g, rfl, hnc, fun _ => rfl, hb, fun _ => (Array.getElem?_eq_some_iff.1 hh).1, fun j hj => ⟨?_, frozen_of_row _ _ _ _ _ hh⟩⟩
    have := h.own.cells (g := g) rfl j _ (byteV_get hj)
    rwa [add_zero_block] at this
theorem OB.bt {w : World} {B : Nat} {v : Value} {L : List Nat} (h : OB w B v L) : Bt w w.heap.size v L := by
  have hl := h.len
  have hs := h.small
  obtain ⟨A, c, g, rfl, hcap, hA, hB, hg, hc⟩ := h.open_
  exact ⟨⟨A, c, rfl, hcap, fun hn => ⟨g, 0, hA hn, hg hn, fun j hj => by rw [Nat.zero_add]; exact (hc j hj).1⟩⟩, hl, hs⟩

/-! Records. -/
def flat (l : List RecD) : List Int := l.flatMap fun r => [r.k, r.a, r.b]
theorem flat_nil : flat [] = [] := rfl
theorem flat_cons (r : RecD) (l : List RecD) : flat (r :: l) = r.k :: r.a :: r.b :: flat l := rfl
theorem flat_append (l m : List RecD) : flat (l ++ m) = flat l ++ flat m := List.flatMap_append
theorem flat_length (l : List RecD) : (flat l).length = l.length * 3 := by
  induction l with
  | nil => rfl
  | cons r l ih => rw [flat_cons]; simp [ih]; omega
def recAt (l : List RecD) (i : Nat) : RecD := l.getD i ⟨0, 0, 0⟩
def cellR (l : List RecD) (j : Nat) : Int := (flat l).getD j 0
theorem cellR_at (l : List RecD) (i : Nat) : cellR l (i * 3) = (recAt l i).k ∧ cellR l (i * 3 + 1) = (recAt l i).a ∧ cellR l (i * 3 + 2) = (recAt l i).b := by
  unfold cellR recAt
  induction l generalizing i with
  | nil => simp [flat]
  | cons r l ih =>
    cases i with
    | zero => exact ⟨rfl, rfl, rfl⟩
    | succ i =>
      have := ih i
      rw [flat_cons, show (i + 1) * 3 = i * 3 + 1 + 1 + 1 by omega, show i * 3 + 1 + 1 + 1 + 1 = (i * 3 + 1) + 1 + 1 + 1 by omega, show i * 3 + 1 + 1 + 1 + 2 = (i * 3 + 2) + 1 + 1 + 1 by omega]
      simpa only [List.getD_cons_succ] using this
def recV (r : RecD) : Value := .agg #[.int .i64 r.k, .int .i64 r.a, .int .i64 r.b]
def recVs (l : List RecD) : List Value := (flat l).map (Value.int .i64)
theorem recVs_get {l : List RecD} {j : Nat} (hj : j < l.length * 3) : (recVs l)[j]? = some (.int .i64 (cellR l j)) := by
  have : j < (flat l).length := by rw [flat_length]; exact hj
  simp [recVs, cellR, List.getD, this]
/-- A slice of the records l, lying below block B. -/
structure Rt (w : World) (B : Nat) (v : Value) (l : List RecD) : Prop where
  it : ∃ A c, v = .slice A l.length c ∧ Sl w B 3 A l.length (cellR l)
  len : l.length ≤ maxLen
theorem Rt.below {w w' : World} {B B' : Nat} {v : Value} {l : List RecD} (h : Rt w B v l) (hb : Below B' w w') (hB : B ≤ B') : Rt w' B v l := by
  obtain ⟨⟨A, c, rfl, hc⟩, hl⟩ := h
  exact ⟨⟨A, c, rfl, hc.below hb hB⟩, hl⟩
theorem Rt.more {w : World} {B B' : Nat} {v : Value} {l : List RecD} (h : Rt w B v l) (hB : B ≤ B') : Rt w B' v l := by
  obtain ⟨⟨A, c, rfl, hc⟩, hl⟩ := h
  exact ⟨⟨A, c, rfl, hc.more hB⟩, hl⟩
theorem Rt.go {w w' : World} {v : Value} {l : List RecD} (h : Rt w w.heap.size v l) (hb : Below w.heap.size w w') : Rt w' w'.heap.size v l := (h.below hb (Nat.le_refl _)).more hb.size
theorem Sl.cell3 {w : World} {B n : Nat} {A : Option Addr} {x : Nat → Int} (h : Sl w B 3 A n x) {i : Nat} (hi : i < n) : ∃ b off, A = some ⟨b, off, none⟩ ∧ b < B ∧
    w.cell? ⟨b, off + i * 3, none⟩ = some (.int .i64 (x (i * 3))) ∧ w.cell? ⟨b, off + i * 3 + 1, none⟩ = some (.int .i64 (x (i * 3 + 1))) ∧ w.cell? ⟨b, off + i * 3 + 2, none⟩ = some (.int .i64 (x (i * 3 + 2))) := by
  obtain ⟨b, off, rfl, hb, hc⟩ := h (by omega)
  exact ⟨b, off, rfl, hb, hc _ (by omega), by rw [Nat.add_assoc]; exact hc _ (by omega), by rw [Nat.add_assoc]; exact hc _ (by omega)⟩
theorem Rt.cell {w : World} {B : Nat} {A : Option Addr} {n c : Nat} {l : List RecD} (h : Rt w B (.slice A n c) l) {i : Nat} (hi : i < l.length) : ∃ b off, A = some ⟨b, off, none⟩ ∧ b < B ∧
    w.cell? ⟨b, off + i * 3, none⟩ = some (.int .i64 (recAt l i).k) ∧ w.cell? ⟨b, off + i * 3 + 1, none⟩ = some (.int .i64 (recAt l i).a) ∧ w.cell? ⟨b, off + i * 3 + 2, none⟩ = some (.int .i64 (recAt l i).b) := by
  obtain ⟨⟨A', c', hv, hc⟩, hl⟩ := h
  injection hv with h1 _ _
  subst h1
  obtain ⟨e1, e2, e3⟩ := cellR_at l i
  have := hc.cell3 hi
  rwa [e1, e2, e3] at this
/-- A row of records of the call's own. -/
def OR (w : World) (B : Nat) (v : Value) (l : List RecD) : Prop := w.ownsRow B 51 3 v l.length (recVs l)
theorem OR.below {w w' : World} {B : Nat} {v : Value} {l : List RecD} (h : OR w B v l) (hb : Below w.heap.size w w') : OR w' B v l := ownsRow_below h hb
theorem OR.base {w : World} {B B' : Nat} {v : Value} {l : List RecD} (h : OR w B v l) (hb : B' ≤ B) : OR w B' v l := ownsRow_base h hb
theorem OR.lt {w : World} {B : Nat} {v : Value} {l : List RecD} (h : OR w B v l) {r : Nat} (hr : v.ownBlock = some r) : B ≤ r ∧ r < w.heap.size := World.ownsRow.lt h r hr
theorem OR.nil_ (w : World) (B : Nat) : OR w B (.slice none 0 0) [] := World.ownsRow_nil _ _ _ _
theorem OR.len {w : World} {B : Nat} {v : Value} {l : List RecD} (h : OR w B v l) : l.length ≤ maxLen := by
  rcases h.2 with ⟨_, h0⟩ | ⟨g, cap, cur, _, _, _, hnc, hcm, _⟩
  · rw [h0]; exact Nat.zero_le _
  · exact Nat.le_trans hnc hcm
theorem OR.empty {w : World} {B : Nat} (hB : B ≤ w.heap.size) : OR (w.alloc (.cells #[] 51)) B (.slice (some ⟨w.heap.size, 0, none⟩) 0 0) [] := by
  have := World.ownsRow_made (base := w.heap.size) (e := 51) (size := 3) w #[] 0 (by simp) (Nat.zero_le _) rfl
  exact ownsRow_base (by simpa [recVs, flat] using this) hB
theorem OR.open_ {w : World} {B : Nat} {v : Value} {l : List RecD} (h : OR w B v l) :
    ∃ A c g, v = .slice A l.length c ∧ (0 < l.length → A = some ⟨g, 0, none⟩) ∧ B ≤ g ∧ (0 < l.length → g < w.heap.size) ∧ RowF w g (l.length * 3) (cellR l) := by
  rcases h.2 with ⟨rfl, h0⟩ | ⟨g, cap, cur, rfl, hb, hh, _⟩
  · exact ⟨none, 0, B, by rw [h0], fun h => by omega, Nat.le_refl _, fun h => by omega, fun j hj => by omega⟩
  · refine ⟨_, cap, g, rfl, fun _ => rfl, hb, fun _ => (Array.getElem?_eq_some_iff.1 hh).1, fun j hj => ⟨?_, frozen_of_row _ _ _ _ _ hh⟩⟩
    have := World.ownsRow.cells h (g := g) rfl j _ (recVs_get hj)
    rwa [add_zero_block] at this
theorem OR.rt {w : World} {B : Nat} {v : Value} {l : List RecD} (h : OR w B v l) : Rt w w.heap.size v l := by
  have hl := h.len
  obtain ⟨A, c, g, rfl, hA, hB, hg, hc⟩ := h.open_
  exact ⟨⟨A, c, rfl, fun hn => ⟨g, 0, hA hn, hg hn, fun j hj => by rw [Nat.zero_add]; exact (hc j hj).1⟩⟩, hl⟩
/-- Records out of places. -/
def recsFrom (n : Nat) (x : Nat → Int) : List RecD := (List.range n).map fun i => ⟨x (i * 3), x (i * 3 + 1), x (i * 3 + 2)⟩
theorem recsFrom_length (n : Nat) (x : Nat → Int) : (recsFrom n x).length = n := by simp [recsFrom]
theorem cellR_from {n : Nat} {x : Nat → Int} {j : Nat} (hj : j < n * 3) : cellR (recsFrom n x) j = x j := by
  have hi : j / 3 < n := by omega
  have hr : recAt (recsFrom n x) (j / 3) = ⟨x (j / 3 * 3), x (j / 3 * 3 + 1), x (j / 3 * 3 + 2)⟩ := by simp [recAt, recsFrom, List.getD, hi]
  obtain ⟨e1, e2, e3⟩ := cellR_at (recsFrom n x) (j / 3)
  rw [hr] at e1 e2 e3
  dsimp only at e1 e2 e3
  rcases (by omega : j = j / 3 * 3 ∨ j = j / 3 * 3 + 1 ∨ j = j / 3 * 3 + 2) with e | e | e
  · rw [← e] at e1; exact e1
  · rw [← e] at e2; exact e2
  · rw [← e] at e3; exact e3
end Go.Proofs.YtfibgpikjfopgaaGreat
/- Bb -/
set_option linter.unusedVariables false
namespace Go.Proofs.YtfibgpikjfopgaaGreat
open Go.RowKit

/-- The names of the kinds. -/
def nameOf (i : Nat) : ByteArray := ⟨#[[], [112, 104, 97, 115, 101], [112, 111, 100], [98, 117, 115, 121], [102, 114, 101, 101], [103, 105, 118, 101], [108, 111, 99, 107], [117, 110, 108, 111, 99, 107], [99, 108, 111, 99, 107], [98, 97, 110, 100], [98, 111, 111, 116], [108, 111, 99, 107, 98, 121], [112, 114, 111, 98, 101]].getD i [] |>.toArray⟩
/-- The table of them lies in block 0. -/
structure Names (w : World) : Prop where
  lt : 0 < w.heap.size
  it : ∀ i, i < 13 → w.cell? ⟨0, i, none⟩ = some (.string (nameOf i))
theorem Names.go {w w' : World} (h : Names w) (hb : Below w.heap.size w w') : Names w' :=
  ⟨Nat.lt_of_lt_of_le h.lt hb.size, fun i hi => (hb.cell (p := ⟨0, i, none⟩) h.lt).trans (h.it i hi)⟩
theorem Names.keeps {S : Nat → Prop} {w w' : World} (h : Names w) (hk : Keeps S w w') (hS : ¬ S 0) : Names w' :=
  ⟨Nat.lt_of_lt_of_le h.lt hk.size, fun i hi => (hk.cell (p := ⟨0, i, none⟩) h.lt hS).trans (h.it i hi)⟩

/-- Has it a name? -/
def kindB (k : Int) : Bool := inB k 1 12
def nameStr (k : Int) : ByteArray := if inB k 0 12 then nameOf k.toNat else ⟨#[]⟩
theorem nameStr_empty (k : Int) : (nameStr k).toList.isEmpty = !kindB k := by
  unfold nameStr kindB
  cases hk : inB k 0 12
  · have : inB k 1 12 = false := by
      cases h : inB k 1 12
      · rfl
      · rw [inB_true] at h
        rw [← Bool.not_eq_true, inB_true] at hk
        omega
    rw [this]
    show (⟨#[]⟩ : ByteArray).toList.isEmpty = true
    kernel_rfl
  · obtain ⟨h0, h1⟩ := inB_true.1 hk
    have : k = 0 ∨ k = 1 ∨ k = 2 ∨ k = 3 ∨ k = 4 ∨ k = 5 ∨ k = 6 ∨ k = 7 ∨ k = 8 ∨ k = 9 ∨ k = 10 ∨ k = 11 ∨ k = 12 := by omega
    rcases this with rfl | rfl | rfl | rfl | rfl | rfl | rfl | rfl | rfl | rfl | rfl | rfl | rfl <;> decide +kernel

set_option maxHeartbeats 400000 in
theorem field_any (x : Int) (w : World) :
    Calls Tryz.prog 49 #[.int .i64 x] w fun e w' => e = .returned (.bool (inB x 0 1000000)) ∧ w = w' := by
  go_enter Tryz.func49, Tryz.ntmps49
  go_wp2_with (go_at_call 26; refine (in_any _ _ _ _).mono ?_; rintro e w' ⟨rfl, rfl⟩)
  go_ret
  exact ⟨rfl, rfl⟩
set_option maxHeartbeats 400000 in
theorem specRecOk_any (r : RecD) (w : World) :
    Calls Tryz.prog 27 #[recV r] w fun e w' => e = .returned (.bool (recOkB r)) ∧ Below w.heap.size w w' := by
  obtain ⟨k, a, b⟩ := r
  unfold recV
  dsimp only
  cases h1 : inB k 1 12
  · have HE := Lib.hid (show recOkB ⟨k, a, b⟩ = false by simp [recOkB, h1])
    go_enter Tryz.func27, Tryz.ntmps27
    go_wp2_with (go_at_call 26; refine (in_any _ _ _ _).mono ?_; rintro e w' ⟨rfl, rfl⟩)
    go_ret
    exact ⟨by rw [HE.out]; rfl, (Below.refl _ _).alloc (Nat.le_refl _) _⟩
  · cases h2 : inB a 0 1000000
    · have HE := Lib.hid (show recOkB ⟨k, a, b⟩ = false by simp [recOkB, h1, h2])
      go_enter Tryz.func27, Tryz.ntmps27
      go_wp2_with (first | (go_at_call 26; refine (in_any _ _ _ _).mono ?_; rintro e w' ⟨rfl, rfl⟩) | (go_at_call 49; refine (field_any _ _).mono ?_; rintro e w' ⟨rfl, rfl⟩))
      go_ret
      exact ⟨by rw [HE.out]; rfl, (Below.refl _ _).alloc (Nat.le_refl _) _⟩
    · have HE := Lib.hid (show recOkB ⟨k, a, b⟩ = inB b 0 1000000 by simp [recOkB, h1, h2])
      go_enter Tryz.func27, Tryz.ntmps27
      go_wp2_with (first | (go_at_call 26; refine (in_any _ _ _ _).mono ?_; rintro e w' ⟨rfl, rfl⟩) | (go_at_call 49; refine (field_any _ _).mono ?_; rintro e w' ⟨rfl, rfl⟩))
      go_ret
      exact ⟨by rw [HE.out]; rfl, (Below.refl _ _).alloc (Nat.le_refl _) _⟩
end Go.Proofs.YtfibgpikjfopgaaGreat
/- Bd -/
set_option linter.unusedVariables false
namespace Go.Proofs.YtfibgpikjfopgaaGreat
open Go.RowKit

/-- What a maker of bytes answers: a row of the call's own (from block B on) with the bytes L. -/
def GivesB (B : Nat) (L : List Nat) (w : World) (e : Ending) (w' : World) : Prop :=
  ∃ v, e = .returned v ∧ OB w' B v L ∧ Below B w w'
theorem putN_len3 {n : Nat} (h : n < 2097152) : (putN n).length ≤ 3 := (putN_length 3 n (by omega)).2 h
theorem OB.push {w w' : World} {B : Nat} {v v' : Value} {L : List Nat} (b : Nat) (h : OB w B v L) (hb : b < 256) (h' : w'.ownsRow B 5 1 v' (L.length + 1) (L.map byteV ++ [.int .u8 (b : Int)])) : OB w' B v' (L ++ [b]) :=
  ⟨by rw [List.length_append, List.map_append]; exact h', h.small.append (fun x hx => by rw [List.mem_singleton.1 hx]; exact hb)⟩

set_option maxRecDepth 100000 in
set_option maxHeartbeats 2000000 in
theorem put_any (v : Value) (L : List Nat) (n B : Nat) (w : World) (h : OB w B v L) (hB : B ≤ w.heap.size) (hn : n < 2097152) (hL : L.length ≤ 100000) :
    Calls Tryz.prog 103 #[v, .int .i64 n] w (GivesB B (L ++ putN n) w) := by
  have H := Lib.hid h
  have HB := Lib.hid hB
  clear h hB
  obtain ⟨i0, hi, hz0, hz1, hz2⟩ := info_parts info_u8
  have HI := Lib.hid hi
  have HZ0 := Lib.hid hz0
  have HZ1 := Lib.hid hz1
  have HZ2 := Lib.hid hz2
  clear hi hz0 hz1 hz2
  have hp := putN_len3 hn
  go_enter Tryz.func103, Tryz.ntmps103
  go_wp2
  go_loopw [0, 1] (fun s0 s1 wr => ∃ (m : Nat) (P : List Nat), s1 = .int .i64 m ∧ m < 2097152 ∧ P ++ putN m = putN n ∧ OB wr B s0 (L ++ P) ∧ Below B w wr) (fun _ s1 _ => (intOf s1).toNat)
  case atStart => exact ⟨n, [], rfl, hn, rfl, by rw [List.append_nil]; exact H.out, Below.refl _ _⟩
  case round =>
    obtain ⟨m, P, rfl, hm, hP, O, K⟩ := hrel
    have hlen : P.length + (putN m).length ≤ 3 := by rw [← List.length_append, hP]; exact hp
    have hpos := putN_pos m
    have hlen2 : (L ++ P).length + 1 ≤ 100004 := by rw [List.length_append]; omega
    have h63 : Hid ((L ++ P).length + 1 ≤ maxLen) := Lib.hid (by unfold maxLen; omega)
    have hby : Hid (((L ++ P).length + 1) * 1 ≤ 140737488355328) := Lib.hid (by omega)
    have HP := Lib.hid hP
    have HO := Lib.hid O
    have hsz := K.size
    have hbw : B ≤ wr.heap.size := Nat.le_trans HB.out hsz
    clear hlen hlen2 hP O hpos
    by_cases h128 : 128 ≤ m
    · have HB2 := Lib.hid (putN_big (n := m) (by omega))
      go_wp2_with ((at_builtin; refine wpList_append_own _ rfl _ _ 22 rfl B 5 i0 (.int .u8 0) 1 1 Tryz.underlying22 HI.out HZ0.out HZ1.out HZ2.out rfl (by decide) _ _ _ rfl (ownsRow_below HO.out.own ((Below.refl _ _).alloc (Nat.le_refl _) _)) ⟨wr.heap.size, 0, none⟩ 1 1 [.int .u8 ((m : Int) % 128 + 128)] rfl rfl (cell_one_new _ _ _) (fun x hx => by simp at hx; subst hx; rfl) h63.out hby.out (by simp; omega) ?_; intro v' w4 hown' hgrow hnil))
      refine ⟨⟨m / 128, P ++ [m % 128 + 128], by go_num, by omega, ?_, ?_, ?_⟩, by simp [intOf]; omega⟩
      · rw [List.append_assoc, ← HP.out, HB2.out]; rfl
      · rw [← List.append_assoc]
        exact OB.push (m % 128 + 128) HO.out (by omega) hown'
      · exact (K.alloc hbw _).grown hgrow (by simp; omega) fun r hr => (HO.out.lt hr).1
    · have HB2 := Lib.hid (putN_small (n := m) (by omega))
      have hm2 : m < 128 := by omega
      go_wp2_with ((at_builtin; refine wpList_append_own _ rfl _ _ 22 rfl B 5 i0 (.int .u8 0) 1 1 Tryz.underlying22 HI.out HZ0.out HZ1.out HZ2.out rfl (by decide) _ _ _ rfl (ownsRow_below HO.out.own ((Below.refl _ _).alloc (Nat.le_refl _) _)) ⟨wr.heap.size, 0, none⟩ 1 1 [.int .u8 (m : Int)] rfl rfl (cell_one_new _ _ _) (fun x hx => by simp at hx; subst hx; rfl) h63.out hby.out (by simp; omega) ?_; intro v' w4 hown' hgrow hnil))
      go_ret
      refine ⟨_, rfl, ?_, (K.alloc hbw _).grown hgrow (by simp; omega) fun r hr => (HO.out.lt hr).1⟩
      rw [← HP.out, HB2.out, ← List.append_assoc]
      exact OB.push m HO.out (by omega) hown'

/-- From w to wr only the row of v has turned; s is that row grown, or of new memory. -/
structure MovedB (w wr : World) (v s : Value) : Prop where
  keep : Keeps (fun r => v.ownBlock = some r) w wr
  own : ∀ r, s.ownBlock = some r → v.ownBlock = some r ∨ w.heap.size ≤ r
theorem MovedB.refl (w : World) (v : Value) : MovedB w w v v := ⟨Keeps.refl _ _, fun r hr => .inl hr⟩
theorem MovedB.alloc {w wr : World} {v s : Value} (h : MovedB w wr v s) (o : Obj) : MovedB w (wr.alloc o) v s :=
  ⟨h.keep.trans ((Keeps.of_below ((Below.refl _ _).alloc (Nat.le_refl _) o))), h.own⟩
theorem MovedB.grown {w wr w' : World} {v s : Value} {g n c : Nat} (h : MovedB w wr v s) (hg : wr.grownBy w' s.ownBlock) (hl : s.ownBlock = some g ∨ g = wr.heap.size) : MovedB w w' v (.slice (some ⟨g, 0, none⟩) n c) := by
  have hs := h.keep.size
  refine ⟨⟨hg.os.trans h.keep.os, hg.tape.trans h.keep.tape, hg.output.trans h.keep.output, Nat.le_trans hs hg.size, fun b hb hn => ?_⟩, fun r hr => ?_⟩
  · refine (hg.block b (Nat.lt_of_lt_of_le hb hs) fun e => ?_).trans (h.keep.block b hb hn)
    rcases h.own b e.symm with h1 | h1
    · exact hn h1
    · omega
  · have hr : g = r := by injection hr
    subst hr
    rcases hl with hl | hl
    · exact h.own _ hl
    · exact .inr (by omega)
theorem MovedB.cell {w wr : World} {v s : Value} (h : MovedB w wr v s) {p : Addr} (hp : p.block < w.heap.size) (hn : v.ownBlock ≠ some p.block) : wr.cell? p = w.cell? p := h.keep.cell hp hn
theorem flatMap_take {N : List Nat} {k : Nat} (hk : k < N.length) : (N.take (k + 1)).flatMap putN = (N.take k).flatMap putN ++ putN (N.getD k 0) := by
  rw [List.take_succ_eq_append_getElem hk, List.flatMap_append]
  simp [List.getD, hk]
theorem flatMap_len {N : List Nat} (h : ∀ x ∈ N, x < 2097152) : (N.flatMap putN).length ≤ 3 * N.length := by
  induction N with
  | nil => simp
  | cons x N ih =>
    have h1 := putN_len3 (h x (by simp))
    have h2 := ih (fun y hy => h y (by simp [hy]))
    simp only [List.flatMap_cons, List.length_append, List.length_cons]
    omega

end Go.Proofs.YtfibgpikjfopgaaGreat
/- Be -/
set_option linter.unusedVariables false
namespace Go.Proofs.YtfibgpikjfopgaaGreat
open Go.RowKit

set_option maxHeartbeats 400000 in
theorem allBelow_closure (g : Nat) (cv : Value) (n : Nat) (f : Nat → Bool) (w : World) (hn : n ≤ maxLen)
    (hg : ∀ (x y : Value) (wr : World), (callFunc g #[x, y]).run Tryz.prog wr = .ok (.enter g #[x, y]) wr)
    (H : Hid (∀ i, i < n → ∀ wr, Below w.heap.size w wr → Calls Tryz.prog g #[.int .i64 i, cv] wr fun e w' => e = .returned (.bool (f i)) ∧ Below wr.heap.size wr w')) :
    Calls Tryz.prog 67 #[.int .i64 n, .func (.func g) #[] #[cv]] w fun e w' => e = .returned (.bool (allB n f)) ∧ Below w.heap.size w w' := by
  unfold maxLen at hn
  go_enter Tryz.func67, Tryz.ntmps67
  go_wp2
  go_loopw [7] (fun i wr => ∃ k : Nat, k ≤ n ∧ i = .int .i64 k ∧ (∀ j, j < k → f j = true) ∧ Below w.heap.size w wr) (fun i _ => n - (intOf i).toNat)
  case atStart => exact ⟨0, Nat.zero_le _, rfl, fun j hj => absurd hj (by omega), Below.refl _ _⟩
  case round =>
    obtain ⟨k, hk, rfl, hall, hb⟩ := hrel
    have HA := Lib.hid hall
    clear hall
    by_cases hlt : k < n
    · have hf := H.out k hlt _ hb
      cases hv : f k
      · rw [hv] at hf
        have Hv := Lib.hid hv
        clear hv
        go_wp2_with (refine hf.mono ?_; rintro e w1 ⟨rfl, hb1⟩)
        go_ret
        exact ⟨ret_bool (allB_false hlt Hv.out).symm, hb.trans (hb1.mono hb.size)⟩
      · rw [hv] at hf
        have Hv := Lib.hid hv
        clear hv
        go_wp2_with (refine hf.mono ?_; rintro e w1 ⟨rfl, hb1⟩)
        go_roundw
        case rel =>
          refine ⟨k + 1, by omega, by go_num, fun j hj => ?_, hb.trans (hb1.mono hb.size)⟩
          by_cases h : j = k
          · rw [h]; exact Hv.out
          · exact HA.out j (by omega)
        case measure => simp [intOf]; omega
    · obtain rfl : k = n := by omega
      go_wp2
      go_ret
      exact ⟨ret_bool (allB_true.2 HA.out).symm, hb⟩

/-- There are not too many, and all are right. -/
def writeB (l : List RecD) : Bool := decide (l.length ≤ 80) && allOk l
theorem allOk_at {l : List RecD} : allB l.length (fun i => recOkB (recAt l i)) = allOk l := by
  rw [Bool.eq_iff_iff, allB_true]
  unfold allOk
  rw [List.all_eq_true]
  constructor
  · intro h r hr
    obtain ⟨i, hi, rfl⟩ := List.getElem_of_mem hr
    have := h i hi
    simpa [recAt, List.getD, hi] using this
  · intro h i hi
    simpa [recAt, List.getD, hi] using h _ (List.getElem_mem hi)

/-- What is written of records, as bytes; none where they can't be. -/
def wroteN (l : List RecD) : List Nat := if writeB l then putN l.length ++ recsN l else []
theorem wroteN_yes {l : List RecD} (h : writeB l = true) : wroteN l = putN l.length ++ recsN l := if_pos h
theorem wroteN_no {l : List RecD} (h : writeB l = false) : wroteN l = [] := if_neg (by rw [h]; decide)
theorem recsN_take {l : List RecD} {k : Nat} (hk : k < l.length) : recsN (l.take (k + 1)) = recsN (l.take k) ++ recN (recAt l k) := by
  rw [List.take_succ_eq_append_getElem hk, recsN_append]
  simp [recsN, recAt, List.getD, hk]
theorem recN_len {r : RecD} (h : recOkB r = true) : (recN r).length ≤ 9 := by
  have := recOkB_true.1 h
  have h1 := putN_len3 (n := r.k.toNat) (by omega)
  have h2 := putN_len3 (n := r.a.toNat) (by omega)
  have h3 := putN_len3 (n := r.b.toNat) (by omega)
  simp only [recN, List.length_append]
  omega
theorem recsN_len {l : List RecD} (h : allOk l = true) : (recsN l).length ≤ 9 * l.length := by
  induction l with
  | nil => simp [recsN]
  | cons r l ih =>
    simp only [allOk, List.all_cons, Bool.and_eq_true] at h
    have h1 := recN_len h.1
    have h2 := ih h.2
    simp only [recsN, List.length_append, List.length_cons]
    omega
theorem writeB_true {l : List RecD} (h : writeB l = true) : l.length ≤ 80 ∧ allOk l = true := by simpa [writeB] using h
theorem wroteN_len (l : List RecD) : (wroteN l).length ≤ 723 := by
  cases h : writeB l
  · rw [wroteN_no h]; simp
  · obtain ⟨h1, h2⟩ := writeB_true h
    rw [wroteN_yes h, List.length_append]
    have := recsN_len h2
    have := putN_len3 (n := l.length) (by omega)
    omega
theorem allOk_get {l : List RecD} (h : allOk l = true) {k : Nat} (hk : k < l.length) : recOkB (recAt l k) = true := by
  rw [← allOk_at] at h
  exact allB_true.1 h k hk
/-- What RecBytes answers. -/
def Wrote (l : List RecD) (w : World) (e : Ending) (w' : World) : Prop :=
  ∃ v, e = .returned (.tuple #[v, .bool (writeB l)]) ∧ OB w' w.heap.size v (wroteN l) ∧ Below w.heap.size w w'

end Go.Proofs.YtfibgpikjfopgaaGreat
/- BeS -/
set_option linter.unusedVariables false
namespace Go.Proofs.YtfibgpikjfopgaaGreat
open Go.RowKit

theorem allOk_take {l : List RecD} {k : Nat} (h : allOk (l.take k) = true) (hk : k < l.length) : allOk (l.take (k + 1)) = recOkB (recAt l k) := by
  unfold allOk at *
  rw [List.take_succ_eq_append_getElem hk, List.all_append, h]
  simp [recAt, List.getD, hk]
theorem allOk_cut {l : List RecD} {k : Nat} (h : allOk l = true) : allOk (l.take k) = true := by
  unfold allOk at *
  rw [List.all_eq_true] at *
  exact fun x hx => h x (List.mem_of_mem_take hx)

set_option maxRecDepth 100000 in
set_option maxHeartbeats 4000000 in
theorem specRecBytes_any (v : Value) (l : List RecD) (w : World) (h : Rt w w.heap.size v l) :
    Calls Tryz.prog 91 #[v] w (Wrote l w) := by
  have H := Lib.hid h
  obtain ⟨⟨A, c, rfl, -⟩, hl⟩ := h
  have hl' : l.length ≤ 2 ^ 63 - 1 := by unfold maxLen at hl; omega
  clear hl
  generalize hq : l.length = q at *
  have HQ := Lib.hid hq
  clear hq
  by_cases h80 : q ≤ 80
  · go_enter Tryz.func91, Tryz.ntmps91
    go_wp2_with fail
    have O1 : OB (w.alloc (.cells #[] 5)) w.heap.size (.slice (some ⟨w.heap.size, 0, none⟩) 0 0) [] := OB.empty (Nat.le_refl _)
    refine (put_any _ [] q w.heap.size _ O1 (by simp) (by omega) (by simp)).mono ?_
    rintro e w2 ⟨v2, rfl, O2, K2⟩
    have O2 : OB w2 w.heap.size v2 (putN q) := by simpa using O2
    have K2 := ((Below.refl w.heap.size w).alloc (Nat.le_refl _) (.cells #[] 5)).trans K2
    clear O1
    go_wp2_with fail
    go_loopw [4, 5] (fun s4 s5 wr => ∃ k : Nat, k ≤ q ∧ s5 = .int .i64 k ∧ allOk (l.take k) = true ∧ OB wr w.heap.size s4 (putN q ++ recsN (l.take k)) ∧ Below w.heap.size w wr) (fun _ s5 _ => q - (intOf s5).toNat)
    case atStart => exact ⟨0, Nat.zero_le _, rfl, rfl, by simpa [recsN] using O2, K2⟩
    case round =>
      clear O2 K2
      obtain ⟨k, hk, rfl, hall, O, K⟩ := hrel
      have HA := Lib.hid hall
      clear hall
      by_cases hlt : k < q
      · obtain ⟨b, off, rfl, hb, q0, q1, q2⟩ := (H.out.below K (Nat.le_refl _)).cell (i := k) (by rw [HQ.out]; exact hlt)
        have HT := Lib.hid (recsN_take (l := l) (k := k) (by rw [HQ.out]; exact hlt))
        have HR := Lib.hid (allOk_take HA.out (by rw [HQ.out]; exact hlt))
        have hlen : (putN q ++ recsN (l.take k)).length ≤ 1000 := by
          have h1 := putN_len3 (n := q) (by omega)
          have h2 := recsN_len HA.out
          rw [List.length_take] at h2
          rw [List.length_append]
          omega
        have HLEN := Lib.hid hlen
        generalize hrr : recAt l k = r at *
        have HRR := Lib.hid hrr
        have HO := Lib.hid O
        have HK := Lib.hid K
        clear O K hlen hrr
        cases hok : recOkB r
        · have HOK := Lib.hid hok
          clear hok
          go_wp2_with fail
          refine (specRecOk_any r _).mono ?_
          rintro e w3 ⟨rfl, hb3⟩
          rw [HOK.out]
          go_wp2_with fail
          go_ret2
          have hW : writeB l = false := by
            cases hw : writeB l
            · rfl
            · have := allOk_get (writeB_true hw).2 (k := k) (by rw [HQ.out]; exact hlt)
              rw [HRR.out, HOK.out] at this
              cases this
          refine ⟨_, ret_two rfl (bool_eq hW.symm), ?_, (HK.out.trans (hb3.mono HK.out.size)).alloc (Nat.le_trans HK.out.size hb3.size) _⟩
          rw [wroteN_no hW]
          exact OB.empty (Nat.le_trans HK.out.size hb3.size)
        · have HOK := Lib.hid hok
          obtain ⟨rk, ra, rb⟩ := r
          have hr := recOkB_true.1 hok
          dsimp only at hr q0 q1 q2
          obtain ⟨nk, rfl⟩ := Int.eq_ofNat_of_zero_le (show 0 ≤ rk by omega)
          obtain ⟨na, rfl⟩ := Int.eq_ofNat_of_zero_le (show 0 ≤ ra by omega)
          obtain ⟨nb, rfl⟩ := Int.eq_ofNat_of_zero_le (show 0 ≤ rb by omega)
          clear hok
          go_wp2_with fail
          refine (specRecOk_any ⟨nk, na, nb⟩ _).mono ?_
          rintro e w3 ⟨rfl, hb3⟩
          rw [HOK.out]
          have q0 := (hb3.cell (p := ⟨b, off + k * 3, none⟩) (by have := HK.out.size; show b < _; omega)).trans q0
          have q1 := (hb3.cell (p := ⟨b, off + k * 3 + 1, none⟩) (by have := HK.out.size; show b < _; omega)).trans q1
          have q2 := (hb3.cell (p := ⟨b, off + k * 3 + 2, none⟩) (by have := HK.out.size; show b < _; omega)).trans q2
          have HO := Lib.hid (HO.out.below hb3)
          have HK := Lib.hid (HK.out.trans (hb3.mono HK.out.size))
          go_wp2_with fail
          have S3 : w3.cell? ⟨b, off + k * 3, none⟩ = some (.int .i64 nk) ∧ w3.cell? ⟨b, off + k * 3 + 1, none⟩ = some (.int .i64 na) ∧ w3.cell? ⟨b, off + k * 3 + 2, none⟩ = some (.int .i64 nb) := ⟨q0, q1, q2⟩
          have c0 : Hid (∀ w4 : World, Below w.heap.size w3 w4 → w4.cell? ⟨b, off + k * 3, none⟩ = some (.int .i64 nk) ∧ w4.cell? ⟨b, off + k * 3 + 1, none⟩ = some (.int .i64 na) ∧ w4.cell? ⟨b, off + k * 3 + 2, none⟩ = some (.int .i64 nb)) := Lib.hid fun w4 h4 =>
            ⟨(h4.cell (p := ⟨b, off + k * 3, none⟩) hb).trans q0, (h4.cell (p := ⟨b, off + k * 3 + 1, none⟩) hb).trans q1, (h4.cell (p := ⟨b, off + k * 3 + 2, none⟩) hb).trans q2⟩
          have hsz := HK.out.size
          have hnk : nk < 2097152 := by omega
          have hna : na < 2097152 := by omega
          have hnb : nb < 2097152 := by omega
          have hl1 := HLEN.out
          have hl2 : ((putN q ++ recsN (l.take k)) ++ putN nk).length ≤ 2000 := by rw [List.length_append]; have := putN_len3 hnk; omega
          have hl3 : (((putN q ++ recsN (l.take k)) ++ putN nk) ++ putN na).length ≤ 3000 := by rw [List.length_append]; have := putN_len3 hna; omega
          have HL1 := Lib.hid hl1
          have HL2 := Lib.hid hl2
          have HL3 := Lib.hid hl3
          clear hl1 hl2 hl3 q0 q1 q2
          go_region_held3 (fun w' => w'.cell? ⟨b, off + k * 3, none⟩ = some (.int .i64 nk) ∧ w'.cell? ⟨b, off + k * 3 + 1, none⟩ = some (.int .i64 na) ∧ w'.cell? ⟨b, off + k * 3 + 2, none⟩ = some (.int .i64 nb))
            (first | exact S3 | exact S4 | exact S5 | exact S6)
            (first
              | (have hq := O5
                 clear hq
                 go_at_call 103
                 refine (put_any v5 _ nb w.heap.size _ O5.out (Nat.le_trans hsz (Nat.le_trans K4.out.size K5.out.size)) hnb (Nat.le_trans HL3.out (by decide))).mono ?_
                 rintro e w6 ⟨v6, rfl, O6, K6⟩
                 have O6 := Lib.hid O6
                 have K6 := Lib.hid K6
                 have S6 := c0.out _ ((K4.out.trans K5.out).trans K6.out))
              | (have hq := O4
                 clear hq
                 go_at_call 103
                 refine (put_any v4 _ na w.heap.size _ O4.out (Nat.le_trans hsz K4.out.size) hna (Nat.le_trans HL2.out (by decide))).mono ?_
                 rintro e w5 ⟨v5, rfl, O5, K5⟩
                 have O5 := Lib.hid O5
                 have K5 := Lib.hid K5
                 have S5 := c0.out _ (K4.out.trans K5.out))
              | (go_at_call 103
                 refine (put_any _ _ nk w.heap.size _ (HO.out.below (Below.refl _ _).drew) hsz hnk (Nat.le_trans HL1.out (by decide))).mono ?_
                 rintro e w4 ⟨v4, rfl, O4, K4⟩
                 have O4 := Lib.hid O4
                 have K4 := Lib.hid ((Below.refl w.heap.size w3).drew.trans K4)
                 have S4 := c0.out _ K4.out))
          clear S3 S4 S5 S6 c0
          have HT6 := Lib.hid ((K4.out.trans K5.out).trans K6.out)
          go_wp2_with fail
          refine ⟨⟨k + 1, by omega, by go_num, by rw [HR.out]; exact HOK.out, ?_, HK.out.trans HT6.out⟩, by simp [intOf]; omega⟩
          rw [HT.out]
          have := O6.out
          simpa [recN] using this
      · obtain rfl : k = q := by omega
        go_wp2
        go_ret2
        have e1 : l.take k = l := List.take_of_length_le (by rw [HQ.out]; exact Nat.le_refl _)
        have hA := HA.out
        rw [e1] at O hA
        have hW : writeB l = true := by simp [writeB, HQ.out, h80, hA]
        refine ⟨_, ret_two rfl (bool_eq hW.symm), ?_, K⟩
        rw [wroteN_yes hW, HQ.out]
        exact O
  · have hW : Hid (writeB l = false) := Lib.hid (by simp [writeB, HQ.out, h80])
    go_enter Tryz.func91, Tryz.ntmps91
    go_wp2_with fail
    go_ret2
    refine ⟨_, ret_two rfl (bool_eq hW.out.symm), ?_, (Below.refl _ _).alloc (Nat.le_refl _) _⟩
    rw [wroteN_no hW.out]
    exact OB.empty (Nat.le_refl _)
end Go.Proofs.YtfibgpikjfopgaaGreat
/- Bc -/
set_option linter.unusedVariables false
namespace Go.Proofs.YtfibgpikjfopgaaGreat
open Go.RowKit

/-- What readNumber answers of the bytes L. -/
def ReadNum (B : Nat) (L : List Nat) (w : World) (e : Ending) (w' : World) : Prop :=
  ∃ (n : Nat) (v : Value) (ok : Bool), e = .returned (.tuple #[.int .i64 n, v, .bool ok]) ∧ Below w.heap.size w w' ∧
    ((ok = true ∧ ∃ r, num (128 ^ 3) L = some (n, r) ∧ Bt w' B v r) ∨ (ok = false ∧ num (128 ^ 3) L = none))

/-- What l3Get answers of the bytes L from place i on. -/
def GotNum (L : List Nat) (i : Nat) (w : World) (e : Ending) (w' : World) : Prop :=
  w = w' ∧ ((∃ n p : Nat, e = .returned (.tuple #[.int .i64 n, .int .i64 p]) ∧ p ≤ L.length ∧ num (128 ^ 4) (L.drop i) = some (n, L.drop p)) ∨ (e = .returned (.tuple #[.int .i64 (-1), .int .i64 0]) ∧ num (128 ^ 4) (L.drop i) = none))

set_option maxRecDepth 100000 in
set_option maxHeartbeats 2000000 in
theorem get_any (v : Value) (L : List Nat) (i : Nat) (w : World) (h : Bt w w.heap.size v L) (hi : i ≤ L.length) :
    Calls Tryz.prog 85 #[v, .int .i64 i] w (GotNum L i w) := by
  have H := Lib.hid h
  obtain ⟨⟨A, c, rfl, hcap, -⟩, hl, hs⟩ := h
  have HS := Lib.hid hs
  have hl' : L.length ≤ 2 ^ 63 - 1 := by unfold maxLen at hl; omega
  have HM := Lib.hid (show SmallB (L.drop i) from hs.drop i)
  clear hs hl
  generalize hn : L.length = n at *
  have HN := Lib.hid hn
  clear hn
  go_enter Tryz.func85, Tryz.ntmps85
  go_wp2
  go_loop [6, 7] (fun s6 kk => ∃ k : Nat, k ≤ 4 ∧ i + k ≤ n ∧ kk = .int .i64 k ∧ s6 = .int .i64 (lowN k (L.drop i) : Nat) ∧ (∀ j, j < k → 128 ≤ (L.drop i).getD j 0)) (fun _ kk => 4 - (intOf kk).toNat)
  case atStart => exact ⟨0, by omega, by omega, rfl, rfl, fun j hj => absurd hj (by omega)⟩
  case round =>
    obtain ⟨k, hk4, hkn, rfl, rfl, hall⟩ := hrel
    have HA := Lib.hid hall
    clear hall
    have hlo := lowN_lt k (L.drop i)
    have hlo2 : lowN k (L.drop i) < 268435456 := Nat.lt_of_lt_of_le hlo (Nat.pow_le_pow_right (n := 128) (j := 4) (by omega) (by omega))
    clear hlo
    by_cases h4 : k < 4
    · by_cases hin : i + k < n
      · obtain ⟨b, off, rfl, hb, q⟩ := H.out.cell (k := i + k) (by rw [HN.out]; exact hin)
        have zlt := HS.out.getD (i + k)
        have hsucc := Lib.hid (lowN_succ k (L.drop i))
        rw [← getD_drop] at q zlt
        generalize hz : (L.drop i).getD k 0 = z at *
        have HZ := Lib.hid hz
        clear hz
        have hkl : k < (L.drop i).length := by rw [List.length_drop, HN.out]; omega
        by_cases h128 : z < 128
        · have hnum : Hid ((0 < k → 0 < z) → num (128 ^ 4) (L.drop i) = some (lowN (k + 1) (L.drop i), L.drop (i + (k + 1)))) := Lib.hid (fun (hz : 0 < k → 0 < z) => by rw [← List.drop_drop]; exact num_at (K := 4) h4 hkl HA.out (by rw [HZ.out]; exact h128) HM.out (by rw [HZ.out]; omega))
          have hbad := Lib.hid (fun (h0 : 0 < k) (hz : z = 0) => num_bad (m := 128 ^ 4) hkl HA.out (by rw [HZ.out]; exact h128) HM.out (by rw [HZ.out]; omega))
          clear hkl
          rcases (by omega : k = 0 ∨ k = 1 ∨ k = 2 ∨ k = 3) with rfl | rfl | rfl | rfl
          · simp only [Nat.add_zero] at q
            go_wp2
            go_ret2
            exact ⟨rfl, .inl ⟨lowN (0 + 1) (L.drop i), i + (0 + 1), ret_two (int_eq (by rw [hsucc.out]; simp)) (int_eq (by omega)), by rw [HN.out]; omega, hnum.out (by omega)⟩⟩
          · by_cases hz : z = 0
            · subst hz
              go_wp2
              go_ret2
              exact ⟨rfl, .inr ⟨rfl, hbad.out (by omega) (by first | trivial | rfl)⟩⟩
            · have hz1 : ((z : Int) == 0) = false := by simp; omega
              have hz2 : ¬ (z : Int) = 0 := by omega
              go_wp2
              go_ret2
              exact ⟨rfl, .inl ⟨lowN (1 + 1) (L.drop i), i + (1 + 1), ret_two (int_eq (by rw [hsucc.out]; simp)) (int_eq (by omega)), by rw [HN.out]; omega, hnum.out (fun _ => by omega)⟩⟩
          · by_cases hz : z = 0
            · subst hz
              go_wp2
              go_ret2
              exact ⟨rfl, .inr ⟨rfl, hbad.out (by omega) (by first | trivial | rfl)⟩⟩
            · have hz1 : ((z : Int) == 0) = false := by simp; omega
              have hz2 : ¬ (z : Int) = 0 := by omega
              go_wp2
              go_ret2
              exact ⟨rfl, .inl ⟨lowN (2 + 1) (L.drop i), i + (2 + 1), ret_two (int_eq (by rw [hsucc.out]; simp)) (int_eq (by omega)), by rw [HN.out]; omega, hnum.out (fun _ => by omega)⟩⟩
          · by_cases hz : z = 0
            · subst hz
              go_wp2
              go_ret2
              exact ⟨rfl, .inr ⟨rfl, hbad.out (by omega) (by first | trivial | rfl)⟩⟩
            · have hz1 : ((z : Int) == 0) = false := by simp; omega
              have hz2 : ¬ (z : Int) = 0 := by omega
              go_wp2
              go_ret2
              exact ⟨rfl, .inl ⟨lowN (3 + 1) (L.drop i), i + (3 + 1), ret_two (int_eq (by rw [hsucc.out]; simp)) (int_eq (by omega)), by rw [HN.out]; omega, hnum.out (fun _ => by omega)⟩⟩
        · rcases (by omega : k = 0 ∨ k = 1 ∨ k = 2 ∨ k = 3) with rfl | rfl | rfl | rfl
          · (try simp only [Nat.add_zero] at q)
            go_wp2
            refine ⟨⟨1, by omega, by omega, by go_num, ?_, ?_⟩, by simp [intOf]⟩
            · refine int_eq ?_
              rw [hsucc.out]
              simp
            · intro j hj
              by_cases h : j < 0
              · exact HA.out j h
              · obtain rfl : j = 0 := by omega
                rw [HZ.out]; omega
          · (try simp only [Nat.add_zero] at q)
            go_wp2
            refine ⟨⟨2, by omega, by omega, by go_num, ?_, ?_⟩, by simp [intOf]⟩
            · refine int_eq ?_
              rw [hsucc.out]
              simp
            · intro j hj
              by_cases h : j < 1
              · exact HA.out j h
              · obtain rfl : j = 1 := by omega
                rw [HZ.out]; omega
          · (try simp only [Nat.add_zero] at q)
            go_wp2
            refine ⟨⟨3, by omega, by omega, by go_num, ?_, ?_⟩, by simp [intOf]⟩
            · refine int_eq ?_
              rw [hsucc.out]
              simp
            · intro j hj
              by_cases h : j < 2
              · exact HA.out j h
              · obtain rfl : j = 2 := by omega
                rw [HZ.out]; omega
          · (try simp only [Nat.add_zero] at q)
            go_wp2
            refine ⟨⟨4, by omega, by omega, by go_num, ?_, ?_⟩, by simp [intOf]⟩
            · refine int_eq ?_
              rw [hsucc.out]
              simp
            · intro j hj
              by_cases h : j < 3
              · exact HA.out j h
              · obtain rfl : j = 3 := by omega
                rw [HZ.out]; omega
      · obtain rfl : i + k = n := by omega
        have hend : num (128 ^ 4) (L.drop i) = none := num_end (by omega) fun j h1 h2 => HA.out j (by have := HN.out; rw [List.length_drop] at h2; omega)
        have HE := Lib.hid hend
        clear hend
        go_wp2
        go_ret2
        exact ⟨rfl, .inr ⟨rfl, HE.out⟩⟩
    · obtain rfl : k = 4 := by omega
      have hend : num (128 ^ 4) (L.drop i) = none := num_end (by omega) fun j h1 h2 => HA.out j (by omega)
      have HE := Lib.hid hend
      clear hend
      go_wp2
      go_ret2
      exact ⟨rfl, .inr ⟨rfl, HE.out⟩⟩
end Go.Proofs.YtfibgpikjfopgaaGreat
/- Bf -/
set_option linter.unusedVariables false
namespace Go.Proofs.YtfibgpikjfopgaaGreat
open Go.RowKit

/-- So many numbers ahead, one behind the other. -/
def nums (m : Nat) : Nat → List Nat → Option (List Nat × List Nat)
  | 0, L => some ([], L)
  | k + 1, L => (nums m k L).bind fun p => (num m p.2).map fun q => (p.1 ++ [q.1], q.2)
theorem nums_zero (m : Nat) (L : List Nat) : nums m 0 L = some ([], L) := rfl
theorem nums_step {m k n : Nat} {L M R : List Nat} {ns : List Nat} (h : nums m k L = some (ns, M)) (h1 : num m M = some (n, R)) : nums m (k + 1) L = some (ns ++ [n], R) := by
  rw [nums, h]; simp [h1]
theorem nums_stop {m k : Nat} {L M : List Nat} {ns : List Nat} (h : nums m k L = some (ns, M)) (h1 : num m M = none) : nums m (k + 1) L = none := by
  rw [nums, h]; simp [h1]
theorem nums_none {m k j : Nat} {L : List Nat} (h : nums m k L = none) (hj : k ≤ j) : nums m j L = none := by
  induction j with
  | zero => obtain rfl : k = 0 := by omega
            exact h
  | succ j ih =>
    by_cases e : k = j + 1
    · subst e; exact h
    · rw [nums, ih (by omega)]; rfl
theorem nums_len {m k : Nat} {L M : List Nat} {ns : List Nat} (h : nums m k L = some (ns, M)) : ns.length = k := by
  induction k generalizing ns M with
  | zero => cases h; rfl
  | succ k ih =>
    rw [nums] at h
    cases e : nums m k L with
    | none => rw [e] at h; cases h
    | some p =>
      obtain ⟨a, b⟩ := p
      rw [e] at h
      cases e2 : num m b with
      | none => simp [e2] at h
      | some q =>
        simp [e2] at h
        obtain ⟨h1, h2⟩ := h
        subst h1
        simp [ih e]
theorem getRec_nums {m : Nat} (hm : 1000000 < m) (L : List Nat) : getRec L =
    (nums m 3 L).bind fun p => if recOkB ⟨p.1.getD 0 0, p.1.getD 1 0, p.1.getD 2 0⟩ then some (⟨p.1.getD 0 0, p.1.getD 1 0, p.1.getD 2 0⟩, p.2) else none := by
  rw [getRec_num hm]
  simp only [nums]
  cases h1 : num m L with
  | none => simp [h1]
  | some p =>
    cases h2 : num m p.2 with
    | none => simp [h1, h2]
    | some q =>
      cases h3 : num m q.2 with
      | none => simp [h1, h2, h3]
      | some s => simp [h1, h2, h3]
theorem getD_snoc (ns : List Nat) (n j : Nat) : (ns ++ [n]).getD j 0 = if j = ns.length then n else ns.getD j 0 := by
  by_cases h : j < ns.length
  · rw [if_neg (by omega)]
    simp [List.getD, List.getElem?_append_left h]
  · by_cases e : j = ns.length
    · subst e; simp [List.getD]
    · rw [if_neg e]
      simp only [List.getD]
      rw [List.getElem?_eq_none (by simp; omega), List.getElem?_eq_none (by omega)]

/-- What readRec answers of the bytes L. -/
def ReadRec (B : Nat) (L : List Nat) (w : World) (e : Ending) (w' : World) : Prop :=
  ∃ (r : RecD) (v : Value) (ok : Bool), e = .returned (.tuple #[recV r, v, .bool ok]) ∧ Below w.heap.size w w' ∧
    ((ok = true ∧ ∃ R, getRec L = some (r, R) ∧ Bt w' B v R) ∨ (ok = false ∧ getRec L = none))
abbrev zero3 : Array Value := #[.int .i64 0, .int .i64 0, .int .i64 0]

end Go.Proofs.YtfibgpikjfopgaaGreat
/- Bg -/
set_option linter.unusedVariables false
namespace Go.Proofs.YtfibgpikjfopgaaGreat
open Go.RowKit

/-- Block g holds N whole numbers, as x tells, and no more; its elements are of type T. -/
structure CellsT (T : TypeId) (w : World) (g N : Nat) (x : Nat → Int) : Prop where
  it : ∃ cur, w.heap[g]? = some (.cells cur T (0, 0)) ∧ cur.size = N ∧ ∀ j, j < N → cur[j]? = some (.int .i64 (x j))
theorem CellsT.lt {T : TypeId} {w : World} {g N : Nat} {x : Nat → Int} (h : CellsT T w g N x) : g < w.heap.size := by
  obtain ⟨cur, hh, _⟩ := h
  exact (Array.getElem?_eq_some_iff.1 hh).1
theorem CellsT.at_ {T : TypeId} {w : World} {g N : Nat} {x : Nat → Int} (h : CellsT T w g N x) {j : Nat} (hj : j < N) : w.cell? ⟨g, j, none⟩ = some (.int .i64 (x j)) ∧ w.frozen? ⟨g, j, none⟩ = false := by
  obtain ⟨cur, hh, _, hc⟩ := h
  exact ⟨(cell_of_row _ _ _ _ _ _ hh).trans (hc j hj), frozen_of_row _ _ _ _ _ hh⟩
theorem CellsT.set {T : TypeId} {w : World} {g N : Nat} {x : Nat → Int} (h : CellsT T w g N x) (i : Nat) (v : Int) : CellsT T (w.setCell ⟨g, i, none⟩ (.int .i64 v)) g N (fun j => if j = i then v else x j) := by
  obtain ⟨cur, hh, hs, hc⟩ := h
  refine ⟨cur.setIfInBounds i (.int .i64 v), heap_setCell_same w g i cur _ _ hh, by simp [hs], fun j hj => ?_⟩
  by_cases e : j = i
  · subst e
    simp [hs, hj]
  · rw [Array.getElem?_setIfInBounds_ne (fun he => e he.symm), hc j hj, if_neg e]
theorem CellsT.congr {T : TypeId} {w : World} {g N : Nat} {x y : Nat → Int} (h : CellsT T w g N x) (e : ∀ j, j < N → x j = y j) : CellsT T w g N y := by
  obtain ⟨cur, hh, hs, hc⟩ := h
  exact ⟨cur, hh, hs, fun j hj => by rw [hc j hj, e j hj]⟩
theorem CellsT.go {T : TypeId} {w w' : World} {g N : Nat} {x : Nat → Int} (h : CellsT T w g N x) (hb : Below w.heap.size w w') : CellsT T w' g N x := by
  have hl := h.lt
  obtain ⟨cur, hh, hs, hc⟩ := h
  exact ⟨cur, (hb.block g hl).trans hh, hs, hc⟩
theorem CellsT.own {T : TypeId} {w : World} {B g n k : Nat} {xs : List Value} (h : ∃ x, CellsT T w g (n * k) x ∧ ∀ j, j < n * k → xs[j]? = some (.int .i64 (x j))) (hl : xs.length = n * k) (hB : B ≤ g) (hn : n ≤ maxLen) :
    w.ownsRow B T k (.slice (some ⟨g, 0, none⟩) n n) n xs := by
  obtain ⟨x, ⟨cur, hh, hs, hc⟩, hx⟩ := h
  refine ⟨hl, .inr ⟨g, n, cur, rfl, hB, hh, Nat.le_refl _, hn, hs, ?_⟩⟩
  rw [List.take_of_length_le (by simp [hs])]
  apply List.ext_getElem?
  intro j
  by_cases hj : j < n * k
  · rw [hx j hj, Array.getElem?_toList, hc j hj]
  · rw [List.getElem?_eq_none (by simp [hs]; omega), List.getElem?_eq_none (by omega)]
theorem CellsT.made {T : TypeId} {w : World} {B g n k : Nat} {z : Array Value} (hk : 0 < k) (hz : z = Array.replicate k (.int .i64 0))
    (h : w.ownsRow B T k (.slice (some ⟨g, 0, none⟩) n n) n (madeCells z (n * k)).toList) : CellsT T w g (n * k) (fun _ => 0) := by
  rcases h.2 with ⟨h1, _⟩ | ⟨g', cap, cur, h1, _, h2, _, _, h5, h6⟩
  · cases h1
  · injection h1 with h1 _ h3
    injection h1 with h1
    injection h1 with h1 _ _
    subst h1 h3
    refine ⟨cur, h2, h5, fun j hj => ?_⟩
    rw [List.take_of_length_le (by simp [h5])] at h6
    rw [← Array.getElem?_toList, h6, hz]
    simp [madeCells, hj]
    rw [getElem!_pos _ _ (by simp; exact Nat.mod_lt _ hk)]
    simp

/-- What ReadRecs answers of the bytes L. -/
def Read (L : List Nat) (w : World) (e : Ending) (w' : World) : Prop :=
  ∃ v, e = .returned (.tuple #[v, .bool (readN L).isSome]) ∧ OR w' w.heap.size v ((readN L).getD []) ∧ Below w.heap.size w w'
theorem readN_no {L : List Nat} (h : readN L = none) : (readN L).isSome = false ∧ (readN L).getD [] = [] := by rw [h]; exact ⟨rfl, rfl⟩
theorem readN_yes {L : List Nat} {l : List RecD} (h : readN L = some l) : (readN L).isSome = true ∧ (readN L).getD [] = l := by rw [h]; exact ⟨rfl, rfl⟩
theorem Rt.keeps {S : Nat → Prop} {w w' : World} {B : Nat} {v : Value} {l : List RecD} (h : Rt w B v l) (hk : Keeps S w w') (hB : B ≤ w.heap.size) (hS : ∀ b, b < B → ¬ S b) : Rt w' B v l :=
  h.below (hk.below (B := B) hB hS) (Nat.le_refl _)
theorem OR.keeps {S : Nat → Prop} {w w' : World} {B : Nat} {v : Value} {l : List RecD} (h : OR w B v l) (hk : Keeps S w w') (hS : ∀ r, B ≤ r → ¬ S r) : OR w' B v l := by
  obtain ⟨hl, ho⟩ := h
  refine ⟨hl, ho.imp id ?_⟩
  rintro ⟨g, cap, cur, hv, hb', hh, rest⟩
  exact ⟨g, cap, cur, hv, hb', (hk.block g (Array.getElem?_eq_some_iff.1 hh).1 (hS g hb')).trans hh, rest⟩
theorem readD_len (L : List Nat) : ((readN L).getD []).length ≤ 80 := by
  cases h : readN L with
  | none => simp
  | some l =>
    show l.length ≤ 80
    unfold readN at h
    split at h
    · cases h
    · rename_i n r h1
      split at h
      · cases h
      · rename_i h80
        cases h2 : getRecs n r with
        | none => rw [h2] at h; cases h
        | some q =>
          rw [h2] at h
          have hn : ∀ (n : Nat) (r : List Nat) (q : List RecD × List Nat), getRecs n r = some q → q.1.length = n := fun n => by
            induction n with
            | zero => intro r q h; cases h; rfl
            | succ n ih =>
              intro r q h
              rw [getRecs_succ] at h
              cases h1 : getRec r with
              | none => rw [h1] at h; cases h
              | some p =>
                rw [h1, Option.bind_some] at h
                cases h3 : getRecs n p.2 with
                | none => rw [h3] at h; cases h
                | some s =>
                  rw [h3] at h
                  cases h
                  simp [ih _ _ h3]
          have := hn n r q h2
          obtain ⟨l', r'⟩ := q
          dsimp only at h
          split at h
          · cases h; dsimp only at this; omega
          · cases h
theorem cellR_snoc (l : List RecD) (r : RecD) (j : Nat) : cellR (l ++ [r]) j = if j = l.length * 3 + 2 then r.b else if j = l.length * 3 + 1 then r.a else if j = l.length * 3 then r.k else cellR l j := by
  unfold cellR
  rw [flat_append]
  have hl := flat_length l
  by_cases h : j < l.length * 3
  · rw [if_neg (by omega), if_neg (by omega), if_neg (by omega)]
    simp [List.getD, List.getElem?_append_left (show j < (flat l).length by omega)]
  · have e : flat [r] = [r.k, r.a, r.b] := rfl
    rw [e, List.getD_eq_getElem?_getD, List.getElem?_append_right (by omega), hl]
    by_cases h3 : j < l.length * 3 + 3
    · rcases (by omega : j = l.length * 3 ∨ j = l.length * 3 + 1 ∨ j = l.length * 3 + 2) with rfl | rfl | rfl
      · rw [if_neg (by omega), if_neg (by omega), if_pos rfl]; simp
      · rw [if_neg (by omega), if_pos rfl]; simp
      · rw [if_pos rfl]; simp
    · rw [if_neg (by omega), if_neg (by omega), if_neg (by omega), List.getElem?_eq_none (by simp; omega), List.getD_eq_getElem?_getD, List.getElem?_eq_none (by omega)]
theorem or_empty_at {w : World} {B g : Nat} (hB : B ≤ w.heap.size) (hg : w.heap.size = g) : OR (w.alloc (.cells #[] 51)) B (.slice (some ⟨g, 0, none⟩) 0 0) [] := by
  subst hg
  exact OR.empty hB
theorem below_set3 {B : Nat} {w w' : World} {g i : Nat} {a b c : Value} (h : Below B w w') (hg : B ≤ g) : Below B w (((w'.setCell ⟨g, i, none⟩ a).setCell ⟨g, i + 1, none⟩ b).setCell ⟨g, i + 2, none⟩ c) :=
  ((h.setCell (p := ⟨g, i, none⟩) hg a).setCell (p := ⟨g, i + 1, none⟩) hg b).setCell (p := ⟨g, i + 2, none⟩) hg c

end Go.Proofs.YtfibgpikjfopgaaGreat
/- BgS -/
set_option linter.unusedVariables false
namespace Go.Proofs.YtfibgpikjfopgaaGreat
open Go.RowKit

theorem info_i64B : (Tryz.prog.info? 2).map (fun i => (i.zero, i.size, i.bytes)) = some (some (.int .i64 0), 1, 8) := by kernel_rfl
def toI (ns : List Nat) : List Int := ns.map fun n : Nat => (n : Int)
theorem toI_len (ns : List Nat) : (toI ns).length = ns.length := by simp [toI]
theorem toI_snoc (ns : List Nat) (n : Nat) : toI (ns ++ [n]) = toI ns ++ [(n : Int)] := by simp [toI]
/-- A row of whole numbers of the call's own. -/
def OL (w : World) (B : Nat) (v : Value) (l : List Int) : Prop := w.ownsRow B 2 1 v l.length (l.map (Value.int .i64))
theorem OL.empty {w : World} {B : Nat} (hB : B ≤ w.heap.size) : OL (w.alloc (.cells #[] 2)) B (.slice (some ⟨w.heap.size, 0, none⟩) 0 0) [] := by
  have := World.ownsRow_made (base := w.heap.size) (e := 2) (size := 1) w #[] 0 (by simp) (Nat.zero_le _) rfl
  exact ownsRow_base (by simpa using this) hB
theorem OL.push {w' : World} {B : Nat} {v' : Value} {l : List Int} (a : Int) (h' : w'.ownsRow B 2 1 v' (l.length + 1) (l.map (Value.int .i64) ++ [.int .i64 a])) : OL w' B v' (l ++ [a]) := by
  unfold OL
  rw [List.length_append, List.map_append]
  exact h'
theorem OL.lt {w : World} {B : Nat} {v : Value} {l : List Int} (h : OL w B v l) {r : Nat} (hr : v.ownBlock = some r) : B ≤ r ∧ r < w.heap.size := World.ownsRow.lt h r hr
theorem OR.push {w' : World} {B : Nat} {v' : Value} {l : List RecD} (r : RecD) (h' : w'.ownsRow B 51 3 v' (l.length + 1) (recVs l ++ [.int .i64 r.k, .int .i64 r.a, .int .i64 r.b])) : OR w' B v' (l ++ [r]) := by
  unfold OR
  rw [List.length_append]
  have : recVs (l ++ [r]) = recVs l ++ [.int .i64 r.k, .int .i64 r.a, .int .i64 r.b] := by simp [recVs, flat]
  rw [this]
  exact h'

theorem num_lt4 {M R : List Nat} {x : Nat} (h : num (128 ^ 4) M = some (x, R)) : x < 268435456 := Nat.lt_of_lt_of_eq (num_some.1 h).2 (by decide)

set_option maxRecDepth 100000 in
set_option maxHeartbeats 4000000 in
theorem specReadRecs_any (v : Value) (L : List Nat) (w : World) (h : Bt w w.heap.size v L) :
    Calls Tryz.prog 58 #[v] w (Read L w) := by
  have H := Lib.hid h
  obtain ⟨⟨A, c, rfl, hcap, -⟩, hl, -⟩ := h
  have hl' : L.length ≤ 2 ^ 63 - 1 := by unfold maxLen at hl; omega
  clear hl
  obtain ⟨i0, hi, hz0, hz1, hz2⟩ := info_parts info_rec
  have HI := Lib.hid hi
  have HZ0 := Lib.hid hz0
  have HZ1 := Lib.hid hz1
  have HZ2 := Lib.hid hz2
  clear hi hz0 hz1 hz2
  obtain ⟨i1, hi, hz0, hz1, hz2⟩ := info_parts info_i64B
  have GI := Lib.hid hi
  have GZ0 := Lib.hid hz0
  have GZ1 := Lib.hid hz1
  have GZ2 := Lib.hid hz2
  clear hi hz0 hz1 hz2
  go_enter Tryz.func58, Tryz.ntmps58
  go_wp2_with fail
  have KA := (Below.refl w.heap.size w).alloc (Nat.le_refl _) (.cells #[] 51)
  have OA : OR (w.alloc (.cells #[] 51)) w.heap.size (.slice (some ⟨w.heap.size, 0, none⟩) 0 0) [] := OR.empty (Nat.le_refl _)
  have HA := Lib.hid ((H.out.below KA (Nat.le_refl _)).more KA.size)
  have HKA := Lib.hid KA
  have HOA := Lib.hid OA
  clear KA OA
  refine (get_any _ L 0 _ HA.out (Nat.zero_le _)).mono ?_
  rintro e w1 ⟨rfl, hor⟩
  rw [List.drop_zero] at hor
  rcases hor with ⟨n, p0, rfl, hp0, hnum⟩ | ⟨rfl, hnum⟩
  · have hrd := readN_num (m := 128 ^ 4) (by decide) L
    rw [hnum] at hrd
    have HRD := Lib.hid hrd
    clear hnum hrd
    by_cases h80 : 80 < n
    · have hno : readN L = none := by rw [HRD.out]; simp [h80]
      have HNO := Lib.hid (readN_no hno)
      clear hno
      go_wp2
      go_ret2
      exact ⟨_, ret_two rfl (bool_eq HNO.out.1.symm), by rw [HNO.out.2]; exact HOA.out, HKA.out⟩
    · have hrd : readN L = (getRecs n (L.drop p0)).bind fun q => if q.2 = [] then some q.1 else none := by rw [HRD.out]; simp [h80]
      have HRD := Lib.hid hrd
      clear hrd
      generalize w.alloc (.cells #[] 51) = w1 at HA HKA HOA ⊢
      have hn80 : n ≤ 80 := by omega
      clear h80
      go_wp2_with fail
      go_loopw [5, 6, 7] (fun s5 s6 s7 wr => ∃ (m p : Nat) (done : List RecD), m ≤ n ∧ s5 = .int .i64 m ∧ s6 = .int .i64 p ∧ p ≤ L.length ∧ done.length + m = n ∧ getRecs n (L.drop p0) = (getRecs m (L.drop p)).map (fun q => (done ++ q.1, q.2)) ∧
        OR wr w1.heap.size s7 done ∧ Below w1.heap.size w1 wr) (fun s5 _ _ _ => (intOf s5).toNat)
      case atStart => exact ⟨n, p0, [], Nat.le_refl _, rfl, rfl, hp0, by simp, by simp, OR.empty (Nat.le_refl _), (Below.refl _ _).alloc (Nat.le_refl _) _⟩
      case round =>
        obtain ⟨m, p, done, hm, rfl, rfl, hp, hdl, hget, O, K⟩ := hrel
        have HG := Lib.hid hget
        have HO := Lib.hid O
        have HK := Lib.hid K
        have HDL := Lib.hid hdl
        clear hget O K hdl
        by_cases hpos : 0 < m
        · have HMM : Hid (m = (m - 1) + 1) := Lib.hid (by omega)
          go_wp2_with fail
          have HA2 := Lib.hid ((HA.out.below HK.out (Nat.le_refl _)).more HK.out.size)
          have HN2 : Hid (∀ {x}, (getRec (L.drop p) = none) → x = none → readN L = x) := Lib.hid fun h1 h2 => by
            rw [HRD.out, HG.out, HMM.out, getRecs_succ, h1, h2]; rfl
          have hdm := HDL.out
          go_loopw [6, 8, 9] (fun s6 s8 s9 wr2 => ∃ (k q : Nat) (ns : List Nat), k ≤ 3 ∧ s9 = .int .i64 k ∧ s6 = .int .i64 q ∧ q ≤ L.length ∧ nums (128 ^ 4) k (L.drop p) = some (ns, L.drop q) ∧
            OL wr2 wr.heap.size s8 (toI ns) ∧ Below wr.heap.size wr wr2) (fun _ _ s9 _ => 3 - (intOf s9).toNat)
          case atStart => exact ⟨0, p, [], by omega, rfl, rfl, hp, rfl, OL.empty (Nat.le_refl _), (Below.refl _ _).alloc (Nat.le_refl _) _⟩
          case round =>
            obtain ⟨k, q, ns, hk, rfl, rfl, hq, hns, O2, K2⟩ := hrel
            have HNS := Lib.hid hns
            have hln := nums_len hns
            have HLN := Lib.hid hln
            have HO2 := Lib.hid O2
            have HK2 := Lib.hid K2
            have hbt := Lib.hid ((HA2.out.below K2 (Nat.le_refl _)).more K2.size)
            clear hns hln O2 K2
            by_cases hlt : k < 3
            · go_wp2_with fail
              refine (get_any _ L q _ hbt.out hq).mono ?_
              rintro e w3 ⟨rfl, hor⟩
              rcases hor with ⟨x, q2, rfl, hq2, hnum⟩ | ⟨rfl, hnum⟩
              · have HNUM := Lib.hid hnum
                clear hnum
                have hx := num_lt4 HNUM.out
                have h63 : Hid ((toI ns).length + 1 ≤ maxLen) := Lib.hid (by rw [toI_len, HLN.out]; unfold maxLen; omega)
                have hby : Hid (((toI ns).length + 1) * 8 ≤ 140737488355328) := Lib.hid (by rw [toI_len, HLN.out]; omega)
                have hs2 := HK2.out.size
                go_wp2_with ((at_builtin; refine wpList_append_own _ rfl _ _ 28 rfl _ 2 i1 (.int .i64 0) 1 8 Tryz.underlying28 GI.out GZ0.out GZ1.out GZ2.out rfl (by decide) _ _ _ rfl (ownsRow_below HO2.out ((Below.refl _ _).alloc (Nat.le_refl _) _)) ⟨wr.heap.size, 0, none⟩ 1 1 [.int .i64 (x : Int)] rfl rfl (cell_one_new _ _ _) (fun x hx => by simp at hx; subst hx; rfl) h63.out hby.out (by simp; omega) ?_; intro v' w4 hown' hgrow hnil))
                refine ⟨⟨k + 1, q2, ns ++ [x], by omega, by go_num, rfl, hq2, nums_step HNS.out HNUM.out, by rw [toI_snoc]; exact OL.push _ hown', (HK2.out.alloc hs2 _).grown hgrow (by simp; omega) fun r hr => (HO2.out.lt hr).1⟩, by simp [intOf]; omega⟩
              · have hno : getRec (L.drop p) = none := by
                  rw [getRec_nums (m := 128 ^ 4) (by decide), nums_none (k := k + 1) (nums_stop HNS.out hnum) (by omega)]
                  rfl
                have HNO := Lib.hid (readN_no (HN2.out hno rfl))
                clear hno hnum
                go_wp2
                go_ret2
                have KK := HK.out.trans (HK2.out.mono HK.out.size)
                exact ⟨_, ret_two rfl (bool_eq HNO.out.1.symm), by rw [HNO.out.2]; exact HOA.out.below KK, HKA.out.trans (KK.mono HKA.out.size)⟩
            · obtain rfl : k = 3 := by omega
              obtain ⟨n0, n1, n2, rfl⟩ : ∃ a b c, ns = [a, b, c] := by
                have := HLN.out
                match ns, this with
                | [a, b, c], _ => exact ⟨a, b, c, rfl⟩
              have HG2 : Hid (getRec (L.drop p) = if recOkB ⟨n0, n1, n2⟩ then some (⟨n0, n1, n2⟩, L.drop q) else none) := Lib.hid (by
                rw [getRec_nums (m := 128 ^ 4) (by decide), HNS.out]; rfl)
              obtain ⟨A1, c1, g1, rfl, hA1, hB1, hz1, R1⟩ := open_list HO2.out
              obtain rfl := hA1 (by simp [toI])
              have hg1 := hz1 (by simp [toI])
              have q0 : wr.cell? ⟨g1, 0, none⟩ = some (.int .i64 n0) := (R1 0 (by simp [toI])).1
              have q1 : wr.cell? ⟨g1, 1, none⟩ = some (.int .i64 n1) := (R1 1 (by simp [toI])).1
              have q2 : wr.cell? ⟨g1, 2, none⟩ = some (.int .i64 n2) := (R1 2 (by simp [toI])).1
              have e3 : (toI [n0, n1, n2]).length = 3 := rfl
              rw [e3]
              have HKK := Lib.hid (HK.out.trans (HK2.out.mono HK.out.size))
              have HOO := Lib.hid (HO.out.below HK2.out)
              clear R1 e3 hA1 hz1 HO2 HNS HLN
              go_wp2_with fail
              have q0 : wr.drew.cell? ⟨g1, 0, none⟩ = some (.int .i64 n0) := q0
              have q1 : wr.drew.cell? ⟨g1, 1, none⟩ = some (.int .i64 n1) := q1
              have q2 : wr.drew.cell? ⟨g1, 2, none⟩ = some (.int .i64 n2) := q2
              go_region
              have Y := (Own.box2 HKK.out #[.int .i64 n0, .int .i64 n1, .int .i64 n2] 51).drew
              have HOd : Hid (OR ((wr.alloc (.cells #[.int .i64 n0, .int .i64 n1, .int .i64 n2] 51)).drew) w1.heap.size u7 done) := Lib.hid ((HOO.out.below ((Below.refl _ _).alloc (Nat.le_refl _) _)).below (Below.refl _ _).drew)
              clear q0 q1 q2 HKK HOO hbt HK2 HO HK
              generalize (wr.alloc (.cells #[.int .i64 n0, .int .i64 n1, .int .i64 n2] 51)).drew = W at Y HOd ⊢
              generalize wr.heap.size = g at Y ⊢
              have hC := Y.C
              go_wp2_with fail
              refine (specRecOk_any ⟨n0, n1, n2⟩ W).mono ?_
              rintro e w5 ⟨rfl, hb5⟩
              have Y5 := Y.step hb5
              have HO5 := Lib.hid (HOd.out.below hb5)
              have hC := Y5.C
              clear Y hb5 HOd
              cases hok : recOkB ⟨n0, n1, n2⟩
              · have hno : getRec (L.drop p) = none := by rw [HG2.out, hok]; rfl
                have HNO := Lib.hid (readN_no (HN2.out hno rfl))
                clear hno hok
                have HK5 := Lib.hid Y5.K
                clear Y5
                go_wp2
                go_ret2
                exact ⟨_, ret_two rfl (bool_eq HNO.out.1.symm), by rw [HNO.out.2]; exact HOA.out.below HK5.out, HKA.out.trans (HK5.out.mono HKA.out.size)⟩
              · have hyes : getRec (L.drop p) = some (⟨n0, n1, n2⟩, L.drop q) := by rw [HG2.out, hok]; rfl
                have HYES := Lib.hid hyes
                clear hyes hok
                have HK5 := Lib.hid Y5.K
                have h63 : Hid (done.length + 1 ≤ maxLen) := Lib.hid (by have := HDL.out; unfold maxLen; omega)
                have hby : Hid ((done.length + 1) * 24 ≤ 140737488355328) := Lib.hid (by have := HDL.out; omega)
                have hs5 := HK5.out.size
                clear Y5
                go_wp2_with ((at_builtin; refine wpList_append_own _ rfl _ _ 93 rfl w1.heap.size 51 i0 (.agg #[.int .i64 0, .int .i64 0, .int .i64 0]) 3 24 Tryz.underlying93 HI.out HZ0.out HZ1.out HZ2.out rfl (by decide) _ _ _ rfl (ownsRow_below HO5.out ((Below.refl _ _).alloc (Nat.le_refl _) _)) ⟨w5.heap.size, 0, none⟩ 1 1 [.int .i64 n0, .int .i64 n1, .int .i64 n2] rfl rfl (World.news_of_block (cs := #[.int .i64 n0, .int .i64 n1, .int .i64 n2]) (heap_alloc_new w5 _)) (by simp [Value.oneCell']) h63.out hby.out (by simp; omega) ?_; intro v' w6 hown' hgrow hnil))
                refine ⟨⟨m - 1, q, done ++ [⟨n0, n1, n2⟩], by omega, int_eq (by omega), rfl, hq, ?_, ?_, OR.push ⟨n0, n1, n2⟩ hown', (HK5.out.alloc hs5 _).grown hgrow (by simp; omega) fun r hr => (HO5.out.lt hr).1⟩, by simp [intOf]; omega⟩
                · have := HDL.out
                  rw [List.length_append, List.length_singleton]
                  omega
                · rw [HG.out, show getRecs m (L.drop p) = getRecs ((m - 1) + 1) (L.drop p) by rw [← HMM.out], getRecs_succ, HYES.out, Option.bind_some]
                  dsimp only
                  cases getRecs (m - 1) (L.drop q) with
                  | none => rfl
                  | some q => simp
        · obtain rfl : m = 0 := by omega
          have hend : readN L = if L.drop p = [] then some done else none := by
            rw [HRD.out, HG.out, getRecs_zero]
            simp
          have HEND := Lib.hid hend
          clear hend
          by_cases hme : p = L.length
          · have hr : readN L = some done := by rw [HEND.out, if_pos (by rw [hme]; simp)]
            have HR := Lib.hid (readN_yes hr)
            clear hr
            subst hme
            go_wp2
            go_ret2
            exact ⟨_, ret_two rfl (bool_eq HR.out.1.symm), by rw [HR.out.2]; exact HO.out.base HKA.out.size, HKA.out.trans (HK.out.mono HKA.out.size)⟩
          · have hr : readN L = none := by rw [HEND.out, if_neg (by intro e; have := List.drop_eq_nil_iff.1 e; omega)]
            have HR := Lib.hid (readN_no hr)
            have hne : ((p : Int) == (L.length : Int)) = false := by simp; omega
            have hne2 : ¬ (p : Int) = (L.length : Int) := by omega
            clear hr hme
            go_wp2
            go_ret2
            exact ⟨_, ret_two rfl (bool_eq HR.out.1.symm), by rw [HR.out.2]; exact HOA.out.below HK.out, HKA.out.trans (HK.out.mono HKA.out.size)⟩
  · have hno : readN L = none := by rw [readN_num (m := 128 ^ 4) (by decide), hnum]; rfl
    have HNO := Lib.hid (readN_no hno)
    clear hno hnum
    go_wp2
    go_ret2
    exact ⟨_, ret_two rfl (bool_eq HNO.out.1.symm), by rw [HNO.out.2]; exact HOA.out, HKA.out⟩
end Go.Proofs.YtfibgpikjfopgaaGreat
/- Sa -/
set_option linter.unusedVariables false
namespace Go.Proofs.YtfibgpikjfopgaaGreat
open Go.RowKit
/-- Block g holds n whole numbers, as x tells, and no more. -/
structure Cells (w : World) (g n : Nat) (x : Nat → Int) : Prop where
  it : ∃ cur, w.heap[g]? = some (.cells cur 2 (0, 0)) ∧ cur.size = n ∧ ∀ j, j < n → cur[j]? = some (.int .i64 (x j))
theorem Cells.lt {w : World} {g n : Nat} {x : Nat → Int} (h : Cells w g n x) : g < w.heap.size := by
  obtain ⟨cur, hh, _⟩ := h
  exact (Array.getElem?_eq_some_iff.1 hh).1
theorem Cells.at_ {w : World} {g n : Nat} {x : Nat → Int} (h : Cells w g n x) {j : Nat} (hj : j < n) : w.cell? ⟨g, j, none⟩ = some (.int .i64 (x j)) ∧ w.frozen? ⟨g, j, none⟩ = false := by
  obtain ⟨cur, hh, _, hc⟩ := h
  exact ⟨(cell_of_row _ _ _ _ _ _ hh).trans (hc j hj), frozen_of_row _ _ _ _ _ hh⟩
theorem Cells.set {w : World} {g n : Nat} {x : Nat → Int} (h : Cells w g n x) (i : Nat) (v : Int) : Cells (w.setCell ⟨g, i, none⟩ (.int .i64 v)) g n (fun j => if j = i then v else x j) := by
  obtain ⟨cur, hh, hs, hc⟩ := h
  refine ⟨cur.setIfInBounds i (.int .i64 v), ?_, by simp [hs], fun j hj => ?_⟩
  · rw [Go.Sort.setCell_eq]
    simp [Go.Sort.mapBlock, Array.getElem?_modify, hh, Go.Sort.onCells]
  · by_cases e : j = i
    · subst e
      simp [hs, hj]
    · rw [Array.getElem?_setIfInBounds_ne (fun he => e he.symm), hc j hj, if_neg e]
theorem Cells.congr {w : World} {g n : Nat} {x y : Nat → Int} (h : Cells w g n x) (e : ∀ j, j < n → x j = y j) : Cells w g n y := by
  obtain ⟨cur, hh, hs, hc⟩ := h
  exact ⟨cur, hh, hs, fun j hj => by rw [hc j hj, e j hj]⟩
theorem Cells.drewN {w : World} {g n : Nat} {x : Nat → Int} (h : Cells w g n x) (q : Nat) : Cells (w.drewN q) g n x := ⟨h.it⟩
/-- The same numbers, in whichever order and however often. -/
structure Same (n : Nat) (x y : Nat → Int) : Prop where
  there : ∀ j, j < n → ∃ k, k < n ∧ y k = x j
  back : ∀ k, k < n → ∃ j, j < n ∧ y k = x j
theorem Same.refl (n : Nat) (x : Nat → Int) : Same n x x := ⟨fun j hj => ⟨j, hj, rfl⟩, fun j hj => ⟨j, hj, rfl⟩⟩
/-- y with what lies at two places put each in the other's. -/
def swapped (y : Nat → Int) (a b : Nat) : Nat → Int := fun j => if j = b then y a else if j = a then y b else y j
theorem Same.swap {n : Nat} {x y : Nat → Int} (h : Same n x y) {a b : Nat} (ha : a < n) (hb : b < n) : Same n x (swapped y a b) := by
  refine ⟨fun j hj => ?_, fun k hk => ?_⟩
  · obtain ⟨k, hk, e⟩ := h.there j hj
    by_cases e1 : k = a
    · exact ⟨b, hb, by rw [← e, e1]; exact if_pos rfl⟩
    · by_cases e2 : k = b
      · refine ⟨a, ha, ?_⟩
        rw [← e, e2]
        unfold swapped
        by_cases e3 : a = b
        · rw [if_pos e3, e3]
        · rw [if_neg e3, if_pos rfl]
      · exact ⟨k, hk, by rw [← e]; unfold swapped; rw [if_neg e2, if_neg e1]⟩
  · unfold swapped
    split
    · exact h.back a ha
    · split
      · exact h.back b hb
      · exact h.back k hk
/-- Up to m all rise (or stay), but for what lies at place j, which may be too small for its place. -/
def RiseBut (y : Nat → Int) (m j : Nat) : Prop := ∀ a b, a < b → b < m → b ≠ j → y a ≤ y b
def Rises (y : Nat → Int) (m : Nat) : Prop := ∀ a b, a < b → b < m → y a ≤ y b
theorem rise_one (y : Nat → Int) : Rises y 1 := fun a b h1 h2 => by omega
theorem Rises.but {y : Nat → Int} {m : Nat} (h : Rises y m) : RiseBut y (m + 1) m := fun a b h1 h2 h3 => h a b h1 (by omega)
theorem RiseBut.stop {y : Nat → Int} {m j : Nat} (h : RiseBut y m j) (hs : j = 0 ∨ y (j - 1) ≤ y j) : Rises y m := fun a b h1 h2 => by
  by_cases e : b = j
  · subst e
    have h3 := hs.resolve_left (by omega)
    by_cases e2 : a = b - 1
    · subst e2; exact h3
    · exact Int.le_trans (h a (b - 1) (by omega) (by omega) (by omega)) h3
  · exact h a b h1 h2 e
theorem RiseBut.swap {y : Nat → Int} {m j : Nat} (h : RiseBut y m j) (hj : 0 < j) (hl : y j < y (j - 1)) : RiseBut (swapped y j (j - 1)) m (j - 1) := fun a b h1 h2 h3 => by
  unfold swapped
  rw [if_neg h3]
  by_cases e1 : b = j
  · rw [if_pos e1]
    by_cases e2 : a = j - 1
    · rw [if_pos e2]; omega
    · rw [if_neg e2, if_neg (by omega)]
      exact h a (j - 1) (by omega) (by omega) (by omega)
  · rw [if_neg e1]
    by_cases e2 : a = j - 1
    · rw [if_pos e2]
      by_cases e3 : j < b
      · exact h j b e3 h2 e1
      · omega
    · rw [if_neg e2]
      by_cases e3 : a = j
      · rw [if_pos e3]
        exact h (j - 1) b (by omega) h2 e1
      · rw [if_neg e3]
        exact h a b h1 h2 e1

/-- What a sort leaves: nothing is answered, the same numbers rise, all else is as it was. -/
def Sorted (g n : Nat) (x : Nat → Int) (w : World) (e : Ending) (w' : World) : Prop :=
  e = .returned (.tuple #[]) ∧ ∃ y, Cells w' g n y ∧ Same n x y ∧ Rises y n ∧ Keeps (· = g) w w'

end Go.Proofs.YtfibgpikjfopgaaGreat
/- Sb -/
set_option linter.unusedVariables false
namespace Go.Proofs.YtfibgpikjfopgaaGreat
open Go.RowKit

/-- Of the first m those that are not as the one ahead of them. -/
def dd (x : Nat → Int) : Nat → List Int
  | 0 => []
  | m + 1 => if m = 0 ∨ x m ≠ x (m - 1) then dd x m ++ [x m] else dd x m
theorem dd_new {x : Nat → Int} {m : Nat} (h : m = 0 ∨ x m ≠ x (m - 1)) : dd x (m + 1) = dd x m ++ [x m] := if_pos h
theorem dd_old {x : Nat → Int} {m : Nat} (hm : 0 < m) (h : x m = x (m - 1)) : dd x (m + 1) = dd x m := if_neg (by omega)
theorem dd_le (x : Nat → Int) : ∀ m, (dd x m).length ≤ m
  | 0 => Nat.le_refl _
  | m + 1 => by
    have := dd_le x m
    unfold dd
    split
    · simp; omega
    · omega
/-- Where no two neighbours are alike all stay. -/
theorem dd_all {x : Nat → Int} : ∀ {m : Nat}, (∀ j, 0 < j → j < m → x j ≠ x (j - 1)) → (dd x m).length = m ∧ ∀ j, j < m → x j = (dd x m).getD j 0
  | 0, _ => ⟨rfl, fun j hj => by omega⟩
  | m + 1, h => by
    obtain ⟨h1, h2⟩ := dd_all (m := m) fun j h0 hj => h j h0 (by omega)
    have hn : m = 0 ∨ x m ≠ x (m - 1) := by
      by_cases e : m = 0
      · exact .inl e
      · exact .inr (h m (by omega) (by omega))
    rw [dd_new hn]
    refine ⟨by simp [h1], fun j hj => ?_⟩
    by_cases e : j = m
    · subst e
      simp [List.getD, h1]
    · rw [h2 j (by omega)]
      simp [List.getD, List.getElem?_append_left (show j < (dd x m).length by omega)]

theorem Cells.fill {g n : Nat} : ∀ (m o : Nat) {w : World} {y : Nat → Int}, Cells w g n y → ∃ z, Cells (w.setCells g o (List.replicate m (.int .i64 0))) g n z ∧ ∀ j, j < o → z j = y j
  | 0, o, w, y, h => ⟨y, h, fun _ _ => rfl⟩
  | m + 1, o, w, y, h => by
    obtain ⟨z, hz, e⟩ := Cells.fill m (o + 1) (h.set o 0)
    exact ⟨z, hz, fun j hj => (e j (by omega)).trans (if_neg (by omega))⟩
theorem Keeps.fill {S : Nat → Prop} {g : Nat} (hg : S g) {w : World} : ∀ (m o : Nat) {w' : World}, Keeps S w w' → Keeps S w (w'.setCells g o (List.replicate m (.int .i64 0)))
  | 0, o, w', h => h
  | m + 1, o, w', h => Keeps.fill hg m (o + 1) (h.set (p := ⟨g, o, none⟩) hg _)

/-- Of the first m places' numbers those that stay lie ahead; behind them all is as it was. -/
structure Moved (x y : Nat → Int) (n m k : Nat) : Prop where
  len : (dd x m).length = k
  lt : k < m
  low : ∀ j, j < k → y j = (dd x m).getD j 0
  high : ∀ j, k ≤ j → j < n → y j = x j
theorem Moved.old {x y : Nat → Int} {n m k : Nat} (h : Moved x y n m k) (hm : 0 < m) (e : x m = x (m - 1)) : Moved x y n (m + 1) k := by
  obtain ⟨h1, h2, h3, h4⟩ := h
  exact ⟨by rw [dd_old hm e]; exact h1, by omega, by rw [dd_old hm e]; exact h3, h4⟩
theorem Moved.new {x y : Nat → Int} {n m k : Nat} (h : Moved x y n m k) (e : x m ≠ x (m - 1)) : Moved x (fun j => if j = k then x m else y j) n (m + 1) (k + 1) := by
  obtain ⟨h1, h2, h3, h4⟩ := h
  refine ⟨by rw [dd_new (.inr e)]; simp [h1], by omega, fun j hj => ?_, fun j h5 h6 => ?_⟩
  · rw [dd_new (.inr e)]
    by_cases e2 : j = k
    · rw [if_pos e2, e2]
      simp [List.getD, ← h1]
    · rw [if_neg e2, h3 j (by omega)]
      simp [List.getD, List.getElem?_append_left (show j < (dd x m).length by omega)]
  · rw [if_neg (by omega)]
    exact h4 j (by omega) h6

/-- What Compact leaves. -/
def Compacted (g n : Nat) (x : Nat → Int) (w : World) (e : Ending) (w' : World) : Prop :=
  e = .returned (.slice (some ⟨g, 0, none⟩) (dd x n).length n) ∧ ∃ y, Cells w' g n y ∧ (∀ j, j < (dd x n).length → y j = (dd x n).getD j 0) ∧ Keeps (· = g) w w'
theorem Compacted.same {g n : Nat} {x : Nat → Int} {w w' : World} (h : ∀ j, 0 < j → j < n → x j ≠ x (j - 1)) (hX : Cells w' g n x) (hK : Keeps (· = g) w w') : Compacted g n x w (.returned (.slice (some ⟨g, 0, none⟩) n n)) w' := by
  obtain ⟨h1, h2⟩ := dd_all h
  exact ⟨by rw [h1], x, hX, by rw [h1]; exact h2, hK⟩

end Go.Proofs.YtfibgpikjfopgaaGreat
/- Sc -/
set_option linter.unusedVariables false
namespace Go.Proofs.YtfibgpikjfopgaaGreat
open Go.RowKit

set_option maxRecDepth 100000 in
set_option maxHeartbeats 2000000 in
theorem specPodsOf_any (v : Value) (d : PlanD) (wanted : Int) (w : World) (h : IsPlan w w.heap.size v d) (hn : d.n0 ≤ 1048576) :
    Calls Tryz.prog 110 #[v, .int .i64 wanted] w (Listed w (found d d.n0 (fun i => d.x0 (i * 4 + 1)) wanted)) := by
  have P := Lib.hid h
  obtain ⟨⟨A0, A1, A2, A3, c0, c1, c2, c3, rfl, s0, s1, s2, s3⟩, b0, b1, b2, b3⟩ := h
  have S := Lib.hid s0
  have HN := Lib.hid hn
  have hn' : d.n0 ≤ 2 ^ 63 - 1 := by omega
  clear s0 s1 s2 s3 b0 b1 b2 b3 hn
  obtain ⟨i0, hi, hz0, hz1, hz2⟩ := info_parts info_i64
  have HI := Lib.hid hi
  have HZ0 := Lib.hid hz0
  have HZ1 := Lib.hid hz1
  have HZ2 := Lib.hid hz2
  clear hi hz0 hz1 hz2
  go_enter Tryz.func110, Tryz.ntmps110
  go_wp2
  have X1 := (Own.box w (planC A0 A1 A2 A3 d.n0 c0 d.n1 c1 d.n2 c2 d.n3 c3 d.l d.p d.t) 32).alloc (.cells #[] 2)
  have O1 : ((w.alloc (.cells (planC A0 A1 A2 A3 d.n0 c0 d.n1 c1 d.n2 c2 d.n3 c3 d.l d.p d.t) 32)).alloc (.cells #[] 2)).ownsRow (w.heap.size + 1) 2 1 (.slice (some ⟨w.heap.size + 1, 0, none⟩) 0 0) 0 [] := by
    have := World.ownsRow_made (base := w.heap.size + 1) (e := 2) (size := 1) (w.alloc (.cells (planC A0 A1 A2 A3 d.n0 c0 d.n1 c1 d.n2 c2 d.n3 c3 d.l d.p d.t) 32)) #[] 0 (by simp) (Nat.zero_le _) rfl
    simpa using this
  go_loopw [5, 6] (fun v i wr => ∃ k : Nat, k ≤ d.n0 ∧ i = .int .i64 k ∧ (k = 0 ∨ planOkB d = true) ∧ wr.ownsRow (w.heap.size + 1) 2 1 v (hits k (fun i => d.x0 (i * 4 + 1)) wanted).length ((hits k (fun i => d.x0 (i * 4 + 1)) wanted).map (Value.int .i64)) ∧
    Own w wr w.heap.size (planC A0 A1 A2 A3 d.n0 c0 d.n1 c1 d.n2 c2 d.n3 c3 d.l d.p d.t)) (fun _ i _ => d.n0 - (intOf i).toNat)
  case atStart => exact ⟨0, Nat.zero_le _, rfl, .inl rfl, O1, X1⟩
  case round =>
    clear O1 X1
    obtain ⟨k, hk, rfl, hor, O, X⟩ := hrel
    have HR := Lib.hid hor
    have HO := Lib.hid O
    clear hor O
    have hC := X.C
    have hz := X.z
    by_cases hlt : k < d.n0
    · cases hq : planOkB d
      · have HQ := Lib.hid hq
        go_wp2_with (go_at_call 17; refine (spec_planOk_any _ d _ ((P.out.below X.K (Nat.le_refl _)).more X.K.size)).mono ?_; rintro e w2 ⟨rfl, hb2⟩; have X2 := X.step hb2)
        go_ret
        refine ⟨_, rfl, ?_, X2.K⟩
        have hk0 : k = 0 := HR.out.resolve_right (by rw [HQ.out]; decide)
        rw [found_no HQ.out]
        have := ownsRow_base (ownsRow_below HO.out hb2) (Nat.le_succ _)
        rw [hk0] at this
        exact this
      · have HQ := Lib.hid hq
        have hle := hits_le k (fun i => d.x0 (i * 4 + 1)) wanted
        have h63 : (hits k (fun i => d.x0 (i * 4 + 1)) wanted).length + 1 ≤ maxLen := by have := HN.out; unfold maxLen; omega
        have hby : ((hits k (fun i => d.x0 (i * 4 + 1)) wanted).length + 1) * 8 ≤ 140737488355328 := by have := HN.out; omega
        have H63 := Lib.hid h63
        have HBY := Lib.hid hby
        clear h63 hby hle
        obtain ⟨b, off, rfl, hb, q0, q1, q2, q3⟩ := (S.out.own X).cell4 hlt
        cases hv : (d.x0 (k * 4 + 1) == wanted)
        · have HV := Lib.hid (hits_no (f := fun i => d.x0 (i * 4 + 1)) hv)
          go_wp2_with (go_at_call 17; refine (spec_planOk_any _ d _ ((P.out.below X.K (Nat.le_refl _)).more X.K.size)).mono ?_; rintro e w2 ⟨rfl, hb2⟩; have X2 := X.step hb2; have hC2 := X2.C; have hD2 := (bcell hb2).1)
          refine ⟨⟨k + 1, by omega, by go_num, .inr (by first | exact HQ.out | trivial), by rw [HV.out]; exact ownsRow_below HO.out hb2, X2⟩, by simp [intOf]; omega⟩
        · have HV := Lib.hid (hits_yes (f := fun i => d.x0 (i * 4 + 1)) hv)
          go_wp2_with (first
            | (go_at_call 17; refine (spec_planOk_any _ d _ ((P.out.below X.K (Nat.le_refl _)).more X.K.size)).mono ?_; rintro e w2 ⟨rfl, hb2⟩; have X2 := X.step hb2; have hC2 := X2.C; have hD2 := (bcell hb2).1)
            | (at_builtin; refine wpList_append_own _ rfl _ _ 28 rfl (w.heap.size + 1) 2 i0 (.int .i64 0) 1 8 Tryz.underlying28 HI.out HZ0.out HZ1.out HZ2.out rfl (by decide) _ _ _ rfl ((ownsRow_below HO.out hb2).alloc _) ⟨w2.heap.size, 0, none⟩ 1 1 [.int .i64 k] rfl rfl (cell_one_new _ _ _) (fun x hx => by simp at hx; subst hx; rfl) H63.out HBY.out (by have := X2.z; simp; omega) ?_; intro v' w4 hown' hgrow hnil))
          have X3 := X2.alloc (.cells #[.int .i64 k] 2)
          have OB := (ownsRow_below HO.out hb2)
          refine ⟨⟨k + 1, by omega, by go_num, .inr (by first | exact HQ.out | trivial), ?_, ?_⟩, by simp [intOf]; omega⟩
          · rw [HV.out]
            simpa using hown'
          · exact X3.grown hgrow fun g hg => by have := (OB.lt g hg).1; omega
    · obtain rfl : k = d.n0 := by omega
      go_wp2
      go_ret
      refine ⟨_, rfl, ?_, X.K⟩
      have := ownsRow_base HO.out (Nat.le_succ _)
      rcases HR.out with h0 | h1
      · cases hq : planOkB d
        · rw [found_no hq]
          rw [h0] at this
          exact this
        · rw [found_yes hq]; exact this
      · rw [found_yes h1]; exact this

theorem specPods_any (v : Value) (d : PlanD) (b : Int) (w : World) (h : IsPlan w w.heap.size v d) (hn : d.n0 ≤ 1048576) :
    Calls Tryz.prog 110 #[v, .int .i64 b] w (Listed w (podsL d b)) := specPodsOf_any v d b w h hn
end Go.Proofs.YtfibgpikjfopgaaGreat
