/-
  Frames: the model's sums and small numbers.
-/
import Derived.Test.YtdkmhaghnfhajaaGreatMZ0
import Derived.Test.YtdkmhaghnfhajaaGreatMZ2
import Derived.Deep.AppendLies
import Derived.Deep.RegionHeld3
import Derived.Sort.Row
import Derived.RegionTactic
import Derived.BigRegion
import Derived.Lib.SliceRun
import Derived.Test.YtdkmhaghnfhajaaGreatMZ1
import Derived.Lib.Hide
import Derived.Test.YtdkmhaghnfhajaaGreatMZ3
import Derived.BigQuiet
import Derived.Deep.QuietTactic
/- Ba -/
set_option linter.unusedVariables false
namespace Go.Proofs.YtdkmhaghnfhajaaGreat
open Go.RowKit

theorem info_u8 : (Tryz.prog.info? 5).map (fun i => (i.zero, i.size, i.bytes)) = some (some (.int .u8 0), 1, 1) := by kernel_rfl
theorem info_rec : (Tryz.prog.info? 60).map (fun i => (i.zero, i.size, i.bytes)) = some (some (.agg #[.int .i64 0, .int .i64 0, .int .i64 0]), 3, 24) := by kernel_rfl

/-! Bytes. -/
def byteV (b : Nat) : Value := .int .u8 (b : Int)
def SmallB (L : List Nat) : Prop := ∀ x ∈ L, x < 256
theorem SmallB.getD {L : List Nat} (h : SmallB L) (k : Nat) : L.getD k 0 < 256 := by
  by_cases hk : k < L.length
  · rw [List.getD_eq_getElem?_getD, List.getElem?_eq_getElem hk]; exact h _ (List.getElem_mem _)
  · rw [List.getD_eq_getElem?_getD, List.getElem?_eq_none (by omega)]; simp
theorem SmallB.drop {L : List Nat} (h : SmallB L) (k : Nat) : SmallB (L.drop k) := fun x hx => h x (List.mem_of_mem_drop hx)
theorem SmallB.take {L : List Nat} (h : SmallB L) (k : Nat) : SmallB (L.take k) := fun x hx => h x (List.mem_of_mem_take hx)
theorem SmallB.append {L M : List Nat} (h : SmallB L) (h' : SmallB M) : SmallB (L ++ M) := fun x hx => (List.mem_append.1 hx).elim (h x) (h' x)

/-- A slice of the bytes L, lying below block B. -/
structure Bt (w : World) (B : Nat) (v : Value) (L : List Nat) : Prop where
  it : ∃ A c, v = .slice A L.length c ∧ L.length ≤ c ∧ (0 < L.length → ∃ b off, A = some ⟨b, off, none⟩ ∧ b < B ∧ ∀ j, j < L.length → w.cell? ⟨b, off + j, none⟩ = some (.int .u8 (L.getD j 0 : Nat)))
  len : L.length ≤ maxLen
  small : SmallB L
theorem Bt.below {w w' : World} {B B' : Nat} {v : Value} {L : List Nat} (h : Bt w B v L) (hb : Below B' w w') (hB : B ≤ B') : Bt w' B v L := by
  obtain ⟨⟨A, c, rfl, hcap, hc⟩, hl, hs⟩ := h
  refine ⟨⟨A, c, rfl, hcap, fun hn => ?_⟩, hl, hs⟩
  obtain ⟨b, off, rfl, hlt, hc⟩ := hc hn
  exact ⟨b, off, rfl, hlt, fun j hj => (hb.cell (p := ⟨b, off + j, none⟩) (by show b < B'; omega)).trans (hc j hj)⟩
theorem Bt.more {w : World} {B B' : Nat} {v : Value} {L : List Nat} (h : Bt w B v L) (hB : B ≤ B') : Bt w B' v L := by
  obtain ⟨⟨A, c, rfl, hcap, hc⟩, hl, hs⟩ := h
  refine ⟨⟨A, c, rfl, hcap, fun hn => ?_⟩, hl, hs⟩
  obtain ⟨b, off, rfl, hlt, hc⟩ := hc hn
  exact ⟨b, off, rfl, by omega, hc⟩
theorem Bt.go {w w' : World} {v : Value} {L : List Nat} (h : Bt w w.heap.size v L) (hb : Below w.heap.size w w') : Bt w' w'.heap.size v L := (h.below hb (Nat.le_refl _)).more hb.size
theorem Bt.cell {w : World} {B : Nat} {A : Option Addr} {n c : Nat} {L : List Nat} (h : Bt w B (.slice A n c) L) {k : Nat} (hk : k < L.length) :
    ∃ b off, A = some ⟨b, off, none⟩ ∧ b < B ∧ w.cell? ⟨b, off + k, none⟩ = some (.int .u8 (L.getD k 0 : Nat)) := by
  obtain ⟨⟨A', c', hv, hcap, hc⟩, hl, hs⟩ := h
  injection hv with h1 _ _
  subst h1
  obtain ⟨b, off, e, hlt, hc⟩ := hc (by omega)
  exact ⟨b, off, e, hlt, hc k hk⟩
theorem getD_drop (L : List Nat) (k j : Nat) : (L.drop k).getD j 0 = L.getD (k + j) 0 := by simp [List.getD]
theorem Bt.drop {w : World} {B : Nat} {A : Option Addr} {n c : Nat} {L : List Nat} (h : Bt w B (.slice A n c) L) {k : Nat} (hk : k ≤ L.length) :
    Bt w B (.slice (if c = k then A else A.map (·.add k)) (n - k) (c - k)) (L.drop k) := by
  obtain ⟨⟨A', c1, hv, hcap, hc⟩, hl, hs⟩ := h
  injection hv with h1 h2 h3
  subst h1 h2 h3
  refine ⟨⟨_, c - k, by rw [List.length_drop], by rw [List.length_drop]; omega, fun hn => ?_⟩, by rw [List.length_drop]; omega, hs.drop k⟩
  rw [List.length_drop] at hn
  obtain ⟨b, off, rfl, hlt, hc⟩ := hc (by omega)
  rw [if_neg (by omega)]
  have ha : (⟨b, off, none⟩ : Addr).add k = ⟨b, off + k, none⟩ := by unfold Addr.add; split <;> simp_all
  refine ⟨b, off + k, by simp [ha], hlt, fun j hj => ?_⟩
  rw [List.length_drop] at hj
  rw [getD_drop, Nat.add_assoc]
  exact hc (k + j) (by omega)
theorem Bt.nil (w : World) (B : Nat) (A : Option Addr) (c : Nat) : Bt w B (.slice A 0 c) [] := ⟨⟨A, c, rfl, Nat.zero_le _, fun h => absurd h (Nat.lt_irrefl _)⟩, Nat.zero_le _, fun x hx => by cases hx⟩
theorem Bt.drop_at {w : World} {B : Nat} {b off n c k : Nat} {A : Option Addr} {L : List Nat} (h : Bt w B (.slice (some ⟨b, off, none⟩) n c) L) (hk : k ≤ n) (hA : c ≠ k → A = some ⟨b, off + k, none⟩) :
    Bt w B (.slice A (n - k) (c - k)) (L.drop k) := by
  have hn : n = L.length ∧ n ≤ c := by
    obtain ⟨⟨A', c1, hv, hcap, hc⟩, hl, hs⟩ := h
    injection hv with h1 h2 h3
    subst h2 h3
    exact ⟨rfl, hcap⟩
  have := h.drop (k := k) (by omega)
  by_cases e : c = k
  · have e0 : L.drop k = [] := List.drop_eq_nil_of_le (by omega)
    rw [e0]
    have : n - k = 0 := by omega
    rw [this]
    exact Bt.nil _ _ _ _
  · rw [hA e]
    rw [if_neg e] at this
    have ha : (⟨b, off, none⟩ : Addr).add k = ⟨b, off + k, none⟩ := by unfold Addr.add; split <;> simp_all
    simpa [ha] using this
theorem Bt.take {w : World} {B : Nat} {A : Option Addr} {n c : Nat} {L : List Nat} (h : Bt w B (.slice A n c) L) {k : Nat} (hk : k ≤ L.length) {c' : Nat} (hc' : k ≤ c') :
    Bt w B (.slice A k c') (L.take k) := by
  obtain ⟨⟨A', c1, hv, hcap, hc⟩, hl, hs⟩ := h
  injection hv with h1 h2 h3
  subst h1
  refine ⟨⟨A, c', by rw [List.length_take, Nat.min_eq_left hk], by rw [List.length_take]; omega, fun hn => ?_⟩, by rw [List.length_take]; omega, hs.take k⟩
  rw [List.length_take] at hn
  obtain ⟨b, off, rfl, hlt, hc⟩ := hc (by omega)
  refine ⟨b, off, rfl, hlt, fun j hj => ?_⟩
  rw [List.length_take] at hj
  have : (L.take k).getD j 0 = L.getD j 0 := by simp [List.getD, show j < k by omega]
  rw [this]
  exact hc j (by omega)

/-- A row of bytes of the call's own. -/
structure OB (w : World) (B : Nat) (v : Value) (L : List Nat) : Prop where
  own : w.ownsRow B 5 1 v L.length (L.map byteV)
  small : SmallB L
theorem OB.below {w w' : World} {B : Nat} {v : Value} {L : List Nat} (h : OB w B v L) (hb : Below w.heap.size w w') : OB w' B v L := ⟨ownsRow_below h.own hb, h.small⟩
theorem OB.base {w : World} {B B' : Nat} {v : Value} {L : List Nat} (h : OB w B v L) (hb : B' ≤ B) : OB w B' v L := ⟨ownsRow_base h.own hb, h.small⟩
theorem OB.lt {w : World} {B : Nat} {v : Value} {L : List Nat} (h : OB w B v L) {r : Nat} (hr : v.ownBlock = some r) : B ≤ r ∧ r < w.heap.size := World.ownsRow.lt h.own r hr
theorem OB.nil_ (w : World) (B : Nat) : OB w B (.slice none 0 0) [] := ⟨World.ownsRow_nil _ _ _ _, fun x hx => by cases hx⟩
theorem OB.len {w : World} {B : Nat} {v : Value} {L : List Nat} (h : OB w B v L) : L.length ≤ maxLen := by
  rcases h.own.2 with ⟨_, h0⟩ | ⟨g, cap, cur, _, _, _, hnc, hcm, _⟩
  · rw [h0]; exact Nat.zero_le _
  · exact Nat.le_trans hnc hcm
theorem OB.empty {w : World} {B : Nat} (hB : B ≤ w.heap.size) : OB (w.alloc (.cells #[] 5)) B (.slice (some ⟨w.heap.size, 0, none⟩) 0 0) [] := by
  have := World.ownsRow_made (base := w.heap.size) (e := 5) (size := 1) w #[] 0 (by simp) (Nat.zero_le _) rfl
  exact ⟨ownsRow_base (by simpa using this) hB, fun x hx => by cases hx⟩
theorem byteV_get {L : List Nat} {j : Nat} (hj : j < L.length) : (L.map byteV)[j]? = some (.int .u8 (L.getD j 0 : Nat)) := by simp [byteV, List.getD, hj]
theorem OB.open_ {w : World} {B : Nat} {v : Value} {L : List Nat} (h : OB w B v L) :
    ∃ A c g, v = .slice A L.length c ∧ L.length ≤ c ∧ (0 < L.length → A = some ⟨g, 0, none⟩) ∧ B ≤ g ∧ (0 < L.length → g < w.heap.size) ∧ (∀ j, j < L.length → w.cell? ⟨g, j, none⟩ = some (.int .u8 (L.getD j 0 : Nat)) ∧ w.frozen? ⟨g, j, none⟩ = false) := by
  rcases h.own.2 with ⟨rfl, h0⟩ | ⟨g, cap, cur, rfl, hb, hh, hnc, _⟩
  · exact ⟨none, 0, B, by rw [h0], by omega, fun h => by omega, Nat.le_refl _, fun h => by omega, fun j hj => by omega⟩
  · refine ⟨_, cap, g, rfl, hnc, fun _ => rfl, hb, fun _ => (Array.getElem?_eq_some_iff.1 hh).1, fun j hj => ⟨?_, frozen_of_row _ _ _ _ _ hh⟩⟩
    have := h.own.cells (g := g) rfl j _ (byteV_get hj)
    rwa [add_zero_block] at this
theorem OB.bt {w : World} {B : Nat} {v : Value} {L : List Nat} (h : OB w B v L) : Bt w w.heap.size v L := by
  have hl := h.len
  have hs := h.small
  obtain ⟨A, c, g, rfl, hcap, hA, hB, hg, hc⟩ := h.open_
  exact ⟨⟨A, c, rfl, hcap, fun hn => ⟨g, 0, hA hn, hg hn, fun j hj => by rw [Nat.zero_add]; exact (hc j hj).1⟩⟩, hl, hs⟩

/-! Records. -/
def flat (l : List RecD) : List Int := l.flatMap fun r => [r.k, r.a, r.b]
theorem flat_cons (r : RecD) (l : List RecD) : flat (r :: l) = r.k :: r.a :: r.b :: flat l := rfl
theorem flat_append (l m : List RecD) : flat (l ++ m) = flat l ++ flat m := List.flatMap_append
theorem flat_length (l : List RecD) : (flat l).length = l.length * 3 := by
  induction l with
  | nil => rfl
  | cons r l ih => rw [flat_cons]; simp [ih]; omega
def recAt (l : List RecD) (i : Nat) : RecD := l.getD i ⟨0, 0, 0⟩
def cellR (l : List RecD) (j : Nat) : Int := (flat l).getD j 0
theorem cellR_at (l : List RecD) (i : Nat) : cellR l (i * 3) = (recAt l i).k ∧ cellR l (i * 3 + 1) = (recAt l i).a ∧ cellR l (i * 3 + 2) = (recAt l i).b := by
  unfold cellR recAt
  induction l generalizing i with
  | nil => simp [flat]
  | cons r l ih =>
    cases i with
    | zero => exact ⟨rfl, rfl, rfl⟩
    | succ i =>
      have := ih i
      rw [flat_cons, show (i + 1) * 3 = i * 3 + 1 + 1 + 1 by omega, show i * 3 + 1 + 1 + 1 + 1 = (i * 3 + 1) + 1 + 1 + 1 by omega, show i * 3 + 1 + 1 + 1 + 2 = (i * 3 + 2) + 1 + 1 + 1 by omega]
      simpa only [List.getD_cons_succ] using this
def recV (r : RecD) : Value := .agg #[.int .i64 r.k, .int .i64 r.a, .int .i64 r.b]
def recVs (l : List RecD) : List Value := (flat l).map (Value.int .i64)
theorem recVs_get {l : List RecD} {j : Nat} (hj : j < l.length * 3) : (recVs l)[j]? = some (.int .i64 (cellR l j)) := by
  have : j < (flat l).length := by rw [flat_length]; exact hj
  simp [recVs, cellR, List.getD, this]
/-- A slice of the records l, lying below block B. -/
structure Rt (w : World) (B : Nat) (v : Value) (l : List RecD) : Prop where
  it : ∃ A c, v = .slice A l.length c ∧ Sl w B 3 A l.length (cellR l)
  len : l.length ≤ maxLen
theorem Rt.below {w w' : World} {B B' : Nat} {v : Value} {l : List RecD} (h : Rt w B v l) (hb : Below B' w w') (hB : B ≤ B') : Rt w' B v l := by
  obtain ⟨⟨A, c, rfl, hc⟩, hl⟩ := h
  exact ⟨⟨A, c, rfl, hc.below hb hB⟩, hl⟩
theorem Rt.more {w : World} {B B' : Nat} {v : Value} {l : List RecD} (h : Rt w B v l) (hB : B ≤ B') : Rt w B' v l := by
  obtain ⟨⟨A, c, rfl, hc⟩, hl⟩ := h
  exact ⟨⟨A, c, rfl, hc.more hB⟩, hl⟩
theorem Rt.go {w w' : World} {v : Value} {l : List RecD} (h : Rt w w.heap.size v l) (hb : Below w.heap.size w w') : Rt w' w'.heap.size v l := (h.below hb (Nat.le_refl _)).more hb.size
theorem Sl.cell3 {w : World} {B n : Nat} {A : Option Addr} {x : Nat → Int} (h : Sl w B 3 A n x) {i : Nat} (hi : i < n) : ∃ b off, A = some ⟨b, off, none⟩ ∧ b < B ∧
    w.cell? ⟨b, off + i * 3, none⟩ = some (.int .i64 (x (i * 3))) ∧ w.cell? ⟨b, off + i * 3 + 1, none⟩ = some (.int .i64 (x (i * 3 + 1))) ∧ w.cell? ⟨b, off + i * 3 + 2, none⟩ = some (.int .i64 (x (i * 3 + 2))) := by
  obtain ⟨b, off, rfl, hb, hc⟩ := h (by omega)
  exact ⟨b, off, rfl, hb, hc _ (by omega), by rw [Nat.add_assoc]; exact hc _ (by omega), by rw [Nat.add_assoc]; exact hc _ (by omega)⟩
theorem Rt.cell {w : World} {B : Nat} {A : Option Addr} {n c : Nat} {l : List RecD} (h : Rt w B (.slice A n c) l) {i : Nat} (hi : i < l.length) : ∃ b off, A = some ⟨b, off, none⟩ ∧ b < B ∧
    w.cell? ⟨b, off + i * 3, none⟩ = some (.int .i64 (recAt l i).k) ∧ w.cell? ⟨b, off + i * 3 + 1, none⟩ = some (.int .i64 (recAt l i).a) ∧ w.cell? ⟨b, off + i * 3 + 2, none⟩ = some (.int .i64 (recAt l i).b) := by
  obtain ⟨⟨A', c', hv, hc⟩, hl⟩ := h
  injection hv with h1 _ _
  subst h1
  obtain ⟨e1, e2, e3⟩ := cellR_at l i
  have := hc.cell3 hi
  rwa [e1, e2, e3] at this
/-- A row of records of the call's own. -/
def OR (w : World) (B : Nat) (v : Value) (l : List RecD) : Prop := w.ownsRow B 60 3 v l.length (recVs l)
theorem OR.below {w w' : World} {B : Nat} {v : Value} {l : List RecD} (h : OR w B v l) (hb : Below w.heap.size w w') : OR w' B v l := ownsRow_below h hb
theorem OR.base {w : World} {B B' : Nat} {v : Value} {l : List RecD} (h : OR w B v l) (hb : B' ≤ B) : OR w B' v l := ownsRow_base h hb
theorem OR.lt {w : World} {B : Nat} {v : Value} {l : List RecD} (h : OR w B v l) {r : Nat} (hr : v.ownBlock = some r) : B ≤ r ∧ r < w.heap.size := World.ownsRow.lt h r hr
theorem OR.nil_ (w : World) (B : Nat) : OR w B (.slice none 0 0) [] := World.ownsRow_nil _ _ _ _
theorem OR.len {w : World} {B : Nat} {v : Value} {l : List RecD} (h : OR w B v l) : l.length ≤ maxLen := by
  rcases h.2 with ⟨_, h0⟩ | ⟨g, cap, cur, _, _, _, hnc, hcm, _⟩
  · rw [h0]; exact Nat.zero_le _
  · exact Nat.le_trans hnc hcm
theorem OR.empty {w : World} {B : Nat} (hB : B ≤ w.heap.size) : OR (w.alloc (.cells #[] 60)) B (.slice (some ⟨w.heap.size, 0, none⟩) 0 0) [] := by
  have := World.ownsRow_made (base := w.heap.size) (e := 60) (size := 3) w #[] 0 (by simp) (Nat.zero_le _) rfl
  exact ownsRow_base (by simpa [recVs, flat] using this) hB
theorem OR.open_ {w : World} {B : Nat} {v : Value} {l : List RecD} (h : OR w B v l) :
    ∃ A c g, v = .slice A l.length c ∧ (0 < l.length → A = some ⟨g, 0, none⟩) ∧ B ≤ g ∧ (0 < l.length → g < w.heap.size) ∧ RowF w g (l.length * 3) (cellR l) := by
  rcases h.2 with ⟨rfl, h0⟩ | ⟨g, cap, cur, rfl, hb, hh, _⟩
  · exact ⟨none, 0, B, by rw [h0], fun h => by omega, Nat.le_refl _, fun h => by omega, fun j hj => by omega⟩
  · refine ⟨_, cap, g, rfl, fun _ => rfl, hb, fun _ => (Array.getElem?_eq_some_iff.1 hh).1, fun j hj => ⟨?_, frozen_of_row _ _ _ _ _ hh⟩⟩
    have := World.ownsRow.cells h (g := g) rfl j _ (recVs_get hj)
    rwa [add_zero_block] at this
theorem OR.rt {w : World} {B : Nat} {v : Value} {l : List RecD} (h : OR w B v l) : Rt w w.heap.size v l := by
  have hl := h.len
  obtain ⟨A, c, g, rfl, hA, hB, hg, hc⟩ := h.open_
  exact ⟨⟨A, c, rfl, fun hn => ⟨g, 0, hA hn, hg hn, fun j hj => by rw [Nat.zero_add]; exact (hc j hj).1⟩⟩, hl⟩
end Go.Proofs.YtdkmhaghnfhajaaGreat
/- Bb -/
set_option linter.unusedVariables false
namespace Go.Proofs.YtdkmhaghnfhajaaGreat
open Go.RowKit

set_option maxHeartbeats 400000 in
theorem field_any (x : Int) (w : World) :
    Calls Tryz.prog 49 #[.int .i64 x] w fun e w' => e = .returned (.bool (inB x 0 1000000)) ∧ w = w' := by
  go_enter Tryz.func49, Tryz.ntmps49
  go_wp2_with (go_at_call 48; refine (in_any _ _ _ _).mono ?_; rintro e w' ⟨rfl, rfl⟩)
  go_ret
  exact ⟨rfl, rfl⟩
set_option maxHeartbeats 400000 in
theorem specRecOk_any (r : RecD) (w : World) :
    Calls Tryz.prog 56 #[recV r] w fun e w' => e = .returned (.bool (recOkB r)) ∧ Below w.heap.size w w' := by
  obtain ⟨k, a, b⟩ := r
  unfold recV
  dsimp only
  cases h1 : inB k 1 12
  · have HE := Lib.hid (show recOkB ⟨k, a, b⟩ = false by simp [recOkB, h1])
    go_enter Tryz.func56, Tryz.ntmps56
    go_wp2_with (go_at_call 48; refine (in_any _ _ _ _).mono ?_; rintro e w' ⟨rfl, rfl⟩)
    go_ret
    exact ⟨by rw [HE.out]; rfl, (Below.refl _ _).alloc (Nat.le_refl _) _⟩
  · cases h2 : inB a 0 1000000
    · have HE := Lib.hid (show recOkB ⟨k, a, b⟩ = false by simp [recOkB, h1, h2])
      go_enter Tryz.func56, Tryz.ntmps56
      go_wp2_with (first | (go_at_call 48; refine (in_any _ _ _ _).mono ?_; rintro e w' ⟨rfl, rfl⟩) | (go_at_call 49; refine (field_any _ _).mono ?_; rintro e w' ⟨rfl, rfl⟩))
      go_ret
      exact ⟨by rw [HE.out]; rfl, (Below.refl _ _).alloc (Nat.le_refl _) _⟩
    · have HE := Lib.hid (show recOkB ⟨k, a, b⟩ = inB b 0 1000000 by simp [recOkB, h1, h2])
      go_enter Tryz.func56, Tryz.ntmps56
      go_wp2_with (first | (go_at_call 48; refine (in_any _ _ _ _).mono ?_; rintro e w' ⟨rfl, rfl⟩) | (go_at_call 49; refine (field_any _ _).mono ?_; rintro e w' ⟨rfl, rfl⟩))
      go_ret
      exact ⟨by rw [HE.out]; rfl, (Below.refl _ _).alloc (Nat.le_refl _) _⟩
end Go.Proofs.YtdkmhaghnfhajaaGreat
/- Bd -/
set_option linter.unusedVariables false
namespace Go.Proofs.YtdkmhaghnfhajaaGreat
open Go.RowKit

/-- What a maker of bytes answers: a row of the call's own (from block B on) with the bytes L. -/
def GivesB (B : Nat) (L : List Nat) (w : World) (e : Ending) (w' : World) : Prop :=
  ∃ v, e = .returned v ∧ OB w' B v L ∧ Below B w w'
theorem putN_len3 {n : Nat} (h : n < 2097152) : (putN n).length ≤ 3 := (putN_length 3 n (by omega)).2 h
theorem OB.push {w w' : World} {B : Nat} {v v' : Value} {L : List Nat} (b : Nat) (h : OB w B v L) (hb : b < 256) (h' : w'.ownsRow B 5 1 v' (L.length + 1) (L.map byteV ++ [.int .u8 (b : Int)])) : OB w' B v' (L ++ [b]) :=
  ⟨by rw [List.length_append, List.map_append]; exact h', h.small.append (fun x hx => by rw [List.mem_singleton.1 hx]; exact hb)⟩

set_option maxRecDepth 100000 in
set_option maxHeartbeats 2000000 in
theorem put_any (v : Value) (L : List Nat) (n B : Nat) (w : World) (h : OB w B v L) (hB : B ≤ w.heap.size) (hn : n < 2097152) (hL : L.length ≤ 100000) :
    Calls Tryz.prog 130 #[v, .int .i64 n] w (GivesB B (L ++ putN n) w) := by
  have H := Lib.hid h
  have HB := Lib.hid hB
  clear h hB
  obtain ⟨i0, hi, hz0, hz1, hz2⟩ := info_parts info_u8
  have HI := Lib.hid hi
  have HZ0 := Lib.hid hz0
  have HZ1 := Lib.hid hz1
  have HZ2 := Lib.hid hz2
  clear hi hz0 hz1 hz2
  have hp := putN_len3 hn
  go_enter Tryz.func130, Tryz.ntmps130
  go_wp2
  go_loopw [0, 1] (fun s0 s1 wr => ∃ (m : Nat) (P : List Nat), s1 = .int .i64 m ∧ m < 2097152 ∧ P ++ putN m = putN n ∧ OB wr B s0 (L ++ P) ∧ Below B w wr) (fun _ s1 _ => (intOf s1).toNat)
  case atStart => exact ⟨n, [], rfl, hn, rfl, by rw [List.append_nil]; exact H.out, Below.refl _ _⟩
  case round =>
    obtain ⟨m, P, rfl, hm, hP, O, K⟩ := hrel
    have hlen : P.length + (putN m).length ≤ 3 := by rw [← List.length_append, hP]; exact hp
    have hpos := putN_pos m
    have hlen2 : (L ++ P).length + 1 ≤ 100004 := by rw [List.length_append]; omega
    have h63 : Hid ((L ++ P).length + 1 ≤ maxLen) := Lib.hid (by unfold maxLen; omega)
    have hby : Hid (((L ++ P).length + 1) * 1 ≤ 140737488355328) := Lib.hid (by omega)
    have HP := Lib.hid hP
    have HO := Lib.hid O
    have hsz := K.size
    have hbw : B ≤ wr.heap.size := Nat.le_trans HB.out hsz
    clear hlen hlen2 hP O hpos
    by_cases h128 : 128 ≤ m
    · have HB2 := Lib.hid (putN_big (n := m) (by omega))
      go_wp2_with ((at_builtin; refine wpList_append_own _ rfl _ _ 22 rfl B 5 i0 (.int .u8 0) 1 1 Tryz.underlying22 HI.out HZ0.out HZ1.out HZ2.out rfl (by decide) _ _ _ rfl (ownsRow_below HO.out.own ((Below.refl _ _).alloc (Nat.le_refl _) _)) ⟨wr.heap.size, 0, none⟩ 1 1 [.int .u8 ((m : Int) % 128 + 128)] rfl rfl (cell_one_new _ _ _) (fun x hx => by simp at hx; subst hx; rfl) h63.out hby.out (by simp; omega) ?_; intro v' w4 hown' hgrow hnil))
      refine ⟨⟨m / 128, P ++ [m % 128 + 128], by go_num, by omega, ?_, ?_, ?_⟩, by simp [intOf]; omega⟩
      · rw [List.append_assoc, ← HP.out, HB2.out]; rfl
      · rw [← List.append_assoc]
        exact OB.push (m % 128 + 128) HO.out (by omega) hown'
      · exact (K.alloc hbw _).grown hgrow (by simp; omega) fun r hr => (HO.out.lt hr).1
    · have HB2 := Lib.hid (putN_small (n := m) (by omega))
      have hm2 : m < 128 := by omega
      go_wp2_with ((at_builtin; refine wpList_append_own _ rfl _ _ 22 rfl B 5 i0 (.int .u8 0) 1 1 Tryz.underlying22 HI.out HZ0.out HZ1.out HZ2.out rfl (by decide) _ _ _ rfl (ownsRow_below HO.out.own ((Below.refl _ _).alloc (Nat.le_refl _) _)) ⟨wr.heap.size, 0, none⟩ 1 1 [.int .u8 (m : Int)] rfl rfl (cell_one_new _ _ _) (fun x hx => by simp at hx; subst hx; rfl) h63.out hby.out (by simp; omega) ?_; intro v' w4 hown' hgrow hnil))
      go_ret
      refine ⟨_, rfl, ?_, (K.alloc hbw _).grown hgrow (by simp; omega) fun r hr => (HO.out.lt hr).1⟩
      rw [← HP.out, HB2.out, ← List.append_assoc]
      exact OB.push m HO.out (by omega) hown'

/-- From w to wr only the row of v has turned; s is that row grown, or of new memory. -/
structure MovedB (w wr : World) (v s : Value) : Prop where
  keep : Keeps (fun r => v.ownBlock = some r) w wr
  own : ∀ r, s.ownBlock = some r → v.ownBlock = some r ∨ w.heap.size ≤ r
theorem MovedB.refl (w : World) (v : Value) : MovedB w w v v := ⟨Keeps.refl _ _, fun r hr => .inl hr⟩
theorem MovedB.alloc {w wr : World} {v s : Value} (h : MovedB w wr v s) (o : Obj) : MovedB w (wr.alloc o) v s :=
  ⟨h.keep.trans ((Keeps.of_below ((Below.refl _ _).alloc (Nat.le_refl _) o))), h.own⟩
theorem MovedB.grown {w wr w' : World} {v s : Value} {g n c : Nat} (h : MovedB w wr v s) (hg : wr.grownBy w' s.ownBlock) (hl : s.ownBlock = some g ∨ g = wr.heap.size) : MovedB w w' v (.slice (some ⟨g, 0, none⟩) n c) := by
  have hs := h.keep.size
  refine ⟨⟨hg.os.trans h.keep.os, hg.tape.trans h.keep.tape, hg.output.trans h.keep.output, Nat.le_trans hs hg.size, fun b hb hn => ?_⟩, fun r hr => ?_⟩
  · refine (hg.block b (Nat.lt_of_lt_of_le hb hs) fun e => ?_).trans (h.keep.block b hb hn)
    rcases h.own b e.symm with h1 | h1
    · exact hn h1
    · omega
  · have hr : g = r := by injection hr
    subst hr
    rcases hl with hl | hl
    · exact h.own _ hl
    · exact .inr (by omega)
theorem MovedB.cell {w wr : World} {v s : Value} (h : MovedB w wr v s) {p : Addr} (hp : p.block < w.heap.size) (hn : v.ownBlock ≠ some p.block) : wr.cell? p = w.cell? p := h.keep.cell hp hn
end Go.Proofs.YtdkmhaghnfhajaaGreat
/- Be -/
set_option linter.unusedVariables false
namespace Go.Proofs.YtdkmhaghnfhajaaGreat
open Go.RowKit

/-- There are not too many, and all are right. -/
def writeB (l : List RecD) : Bool := decide (l.length ≤ 80) && allOk l
theorem allOk_at {l : List RecD} : allB l.length (fun i => recOkB (recAt l i)) = allOk l := by
  rw [Bool.eq_iff_iff, allB_true]
  unfold allOk
  rw [List.all_eq_true]
  constructor
  · intro h r hr
    obtain ⟨i, hi, rfl⟩ := List.getElem_of_mem hr
    have := h i hi
    simpa [recAt, List.getD, hi] using this
  · intro h i hi
    simpa [recAt, List.getD, hi] using h _ (List.getElem_mem hi)

/-- What is written of records, as bytes; none where they can't be. -/
def wroteN (l : List RecD) : List Nat := if writeB l then putN l.length ++ recsN l else []
theorem wroteN_yes {l : List RecD} (h : writeB l = true) : wroteN l = putN l.length ++ recsN l := if_pos h
theorem wroteN_no {l : List RecD} (h : writeB l = false) : wroteN l = [] := if_neg (by rw [h]; decide)
theorem recsN_take {l : List RecD} {k : Nat} (hk : k < l.length) : recsN (l.take (k + 1)) = recsN (l.take k) ++ recN (recAt l k) := by
  rw [List.take_succ_eq_append_getElem hk, recsN_append]
  simp [recsN, recAt, List.getD, hk]
theorem recN_len {r : RecD} (h : recOkB r = true) : (recN r).length ≤ 9 := by
  have := recOkB_true.1 h
  have h1 := putN_len3 (n := r.k.toNat) (by omega)
  have h2 := putN_len3 (n := r.a.toNat) (by omega)
  have h3 := putN_len3 (n := r.b.toNat) (by omega)
  simp only [recN, List.length_append]
  omega
theorem recsN_len {l : List RecD} (h : allOk l = true) : (recsN l).length ≤ 9 * l.length := by
  induction l with
  | nil => simp [recsN]
  | cons r l ih =>
    simp only [allOk, List.all_cons, Bool.and_eq_true] at h
    have h1 := recN_len h.1
    have h2 := ih h.2
    simp only [recsN, List.length_append, List.length_cons]
    omega
theorem writeB_true {l : List RecD} (h : writeB l = true) : l.length ≤ 80 ∧ allOk l = true := by simpa [writeB] using h
theorem wroteN_len (l : List RecD) : (wroteN l).length ≤ 723 := by
  cases h : writeB l
  · rw [wroteN_no h]; simp
  · obtain ⟨h1, h2⟩ := writeB_true h
    rw [wroteN_yes h, List.length_append]
    have := recsN_len h2
    have := putN_len3 (n := l.length) (by omega)
    omega
theorem allOk_get {l : List RecD} (h : allOk l = true) {k : Nat} (hk : k < l.length) : recOkB (recAt l k) = true := by
  rw [← allOk_at] at h
  exact allB_true.1 h k hk
/-- What RecBytes answers. -/
def Wrote (l : List RecD) (w : World) (e : Ending) (w' : World) : Prop :=
  ∃ v, e = .returned (.tuple #[v, .bool (writeB l)]) ∧ OB w' w.heap.size v (wroteN l) ∧ Below w.heap.size w w'

end Go.Proofs.YtdkmhaghnfhajaaGreat
/- BeS -/
set_option linter.unusedVariables false
namespace Go.Proofs.YtdkmhaghnfhajaaGreat
open Go.RowKit

theorem allOk_take {l : List RecD} {k : Nat} (h : allOk (l.take k) = true) (hk : k < l.length) : allOk (l.take (k + 1)) = recOkB (recAt l k) := by
  unfold allOk at *
  rw [List.take_succ_eq_append_getElem hk, List.all_append, h]
  simp [recAt, List.getD, hk]
set_option maxRecDepth 100000 in
set_option maxHeartbeats 4000000 in
theorem specRecBytes_any (v : Value) (l : List RecD) (w : World) (h : Rt w w.heap.size v l) :
    Calls Tryz.prog 120 #[v] w (Wrote l w) := by
  have H := Lib.hid h
  obtain ⟨⟨A, c, rfl, -⟩, hl⟩ := h
  have hl' : l.length ≤ 2 ^ 63 - 1 := by unfold maxLen at hl; omega
  clear hl
  generalize hq : l.length = q at *
  have HQ := Lib.hid hq
  clear hq
  by_cases h80 : q ≤ 80
  · go_enter Tryz.func120, Tryz.ntmps120
    go_wp2_with fail
    have O1 : OB (w.alloc (.cells #[] 5)) w.heap.size (.slice (some ⟨w.heap.size, 0, none⟩) 0 0) [] := OB.empty (Nat.le_refl _)
    refine (put_any _ [] q w.heap.size _ O1 (by simp) (by omega) (by simp)).mono ?_
    rintro e w2 ⟨v2, rfl, O2, K2⟩
    have O2 : OB w2 w.heap.size v2 (putN q) := by simpa using O2
    have K2 := ((Below.refl w.heap.size w).alloc (Nat.le_refl _) (.cells #[] 5)).trans K2
    clear O1
    go_wp2_with fail
    go_loopw [4, 5] (fun s4 s5 wr => ∃ k : Nat, k ≤ q ∧ s5 = .int .i64 k ∧ allOk (l.take k) = true ∧ OB wr w.heap.size s4 (putN q ++ recsN (l.take k)) ∧ Below w.heap.size w wr) (fun _ s5 _ => q - (intOf s5).toNat)
    case atStart => exact ⟨0, Nat.zero_le _, rfl, rfl, by simpa [recsN] using O2, K2⟩
    case round =>
      clear O2 K2
      obtain ⟨k, hk, rfl, hall, O, K⟩ := hrel
      have HA := Lib.hid hall
      clear hall
      by_cases hlt : k < q
      · obtain ⟨b, off, rfl, hb, q0, q1, q2⟩ := (H.out.below K (Nat.le_refl _)).cell (i := k) (by rw [HQ.out]; exact hlt)
        have HT := Lib.hid (recsN_take (l := l) (k := k) (by rw [HQ.out]; exact hlt))
        have HR := Lib.hid (allOk_take HA.out (by rw [HQ.out]; exact hlt))
        have hlen : (putN q ++ recsN (l.take k)).length ≤ 1000 := by
          have h1 := putN_len3 (n := q) (by omega)
          have h2 := recsN_len HA.out
          rw [List.length_take] at h2
          rw [List.length_append]
          omega
        have HLEN := Lib.hid hlen
        generalize hrr : recAt l k = r at *
        have HRR := Lib.hid hrr
        have HO := Lib.hid O
        have HK := Lib.hid K
        clear O K hlen hrr
        cases hok : recOkB r
        · have HOK := Lib.hid hok
          clear hok
          go_wp2_with fail
          refine (specRecOk_any r _).mono ?_
          rintro e w3 ⟨rfl, hb3⟩
          rw [HOK.out]
          go_wp2_with fail
          go_ret2
          have hW : writeB l = false := by
            cases hw : writeB l
            · rfl
            · have := allOk_get (writeB_true hw).2 (k := k) (by rw [HQ.out]; exact hlt)
              rw [HRR.out, HOK.out] at this
              cases this
          refine ⟨_, ret_two rfl (bool_eq hW.symm), ?_, (HK.out.trans (hb3.mono HK.out.size)).alloc (Nat.le_trans HK.out.size hb3.size) _⟩
          rw [wroteN_no hW]
          exact OB.empty (Nat.le_trans HK.out.size hb3.size)
        · have HOK := Lib.hid hok
          obtain ⟨rk, ra, rb⟩ := r
          have hr := recOkB_true.1 hok
          dsimp only at hr q0 q1 q2
          obtain ⟨nk, rfl⟩ := Int.eq_ofNat_of_zero_le (show 0 ≤ rk by omega)
          obtain ⟨na, rfl⟩ := Int.eq_ofNat_of_zero_le (show 0 ≤ ra by omega)
          obtain ⟨nb, rfl⟩ := Int.eq_ofNat_of_zero_le (show 0 ≤ rb by omega)
          clear hok
          go_wp2_with fail
          refine (specRecOk_any ⟨nk, na, nb⟩ _).mono ?_
          rintro e w3 ⟨rfl, hb3⟩
          rw [HOK.out]
          have q0 := (hb3.cell (p := ⟨b, off + k * 3, none⟩) (by have := HK.out.size; show b < _; omega)).trans q0
          have q1 := (hb3.cell (p := ⟨b, off + k * 3 + 1, none⟩) (by have := HK.out.size; show b < _; omega)).trans q1
          have q2 := (hb3.cell (p := ⟨b, off + k * 3 + 2, none⟩) (by have := HK.out.size; show b < _; omega)).trans q2
          have HO := Lib.hid (HO.out.below hb3)
          have HK := Lib.hid (HK.out.trans (hb3.mono HK.out.size))
          go_wp2_with fail
          have S3 : w3.cell? ⟨b, off + k * 3, none⟩ = some (.int .i64 nk) ∧ w3.cell? ⟨b, off + k * 3 + 1, none⟩ = some (.int .i64 na) ∧ w3.cell? ⟨b, off + k * 3 + 2, none⟩ = some (.int .i64 nb) := ⟨q0, q1, q2⟩
          have c0 : Hid (∀ w4 : World, Below w.heap.size w3 w4 → w4.cell? ⟨b, off + k * 3, none⟩ = some (.int .i64 nk) ∧ w4.cell? ⟨b, off + k * 3 + 1, none⟩ = some (.int .i64 na) ∧ w4.cell? ⟨b, off + k * 3 + 2, none⟩ = some (.int .i64 nb)) := Lib.hid fun w4 h4 =>
            ⟨(h4.cell (p := ⟨b, off + k * 3, none⟩) hb).trans q0, (h4.cell (p := ⟨b, off + k * 3 + 1, none⟩) hb).trans q1, (h4.cell (p := ⟨b, off + k * 3 + 2, none⟩) hb).trans q2⟩
          have hsz := HK.out.size
          have hnk : nk < 2097152 := by omega
          have hna : na < 2097152 := by omega
          have hnb : nb < 2097152 := by omega
          have hl1 := HLEN.out
          have hl2 : ((putN q ++ recsN (l.take k)) ++ putN nk).length ≤ 2000 := by rw [List.length_append]; have := putN_len3 hnk; omega
          have hl3 : (((putN q ++ recsN (l.take k)) ++ putN nk) ++ putN na).length ≤ 3000 := by rw [List.length_append]; have := putN_len3 hna; omega
          have HL1 := Lib.hid hl1
          have HL2 := Lib.hid hl2
          have HL3 := Lib.hid hl3
          clear hl1 hl2 hl3 q0 q1 q2
          go_region_held3 (fun w' => w'.cell? ⟨b, off + k * 3, none⟩ = some (.int .i64 nk) ∧ w'.cell? ⟨b, off + k * 3 + 1, none⟩ = some (.int .i64 na) ∧ w'.cell? ⟨b, off + k * 3 + 2, none⟩ = some (.int .i64 nb))
            (first | exact S3 | exact S4 | exact S5 | exact S6)
            (first
              | (have hq := O5
                 clear hq
                 go_at_call 130
                 refine (put_any v5 _ nb w.heap.size _ O5.out (Nat.le_trans hsz (Nat.le_trans K4.out.size K5.out.size)) hnb (Nat.le_trans HL3.out (by decide))).mono ?_
                 rintro e w6 ⟨v6, rfl, O6, K6⟩
                 have O6 := Lib.hid O6
                 have K6 := Lib.hid K6
                 have S6 := c0.out _ ((K4.out.trans K5.out).trans K6.out))
              | (have hq := O4
                 clear hq
                 go_at_call 130
                 refine (put_any v4 _ na w.heap.size _ O4.out (Nat.le_trans hsz K4.out.size) hna (Nat.le_trans HL2.out (by decide))).mono ?_
                 rintro e w5 ⟨v5, rfl, O5, K5⟩
                 have O5 := Lib.hid O5
                 have K5 := Lib.hid K5
                 have S5 := c0.out _ (K4.out.trans K5.out))
              | (go_at_call 130
                 refine (put_any _ _ nk w.heap.size _ (HO.out.below (Below.refl _ _).drew) hsz hnk (Nat.le_trans HL1.out (by decide))).mono ?_
                 rintro e w4 ⟨v4, rfl, O4, K4⟩
                 have O4 := Lib.hid O4
                 have K4 := Lib.hid ((Below.refl w.heap.size w3).drew.trans K4)
                 have S4 := c0.out _ K4.out))
          clear S3 S4 S5 S6 c0
          have HT6 := Lib.hid ((K4.out.trans K5.out).trans K6.out)
          go_wp2_with fail
          refine ⟨⟨k + 1, by omega, by go_num, by rw [HR.out]; exact HOK.out, ?_, HK.out.trans HT6.out⟩, by simp [intOf]; omega⟩
          rw [HT.out]
          have := O6.out
          simpa [recN] using this
      · obtain rfl : k = q := by omega
        go_wp2
        go_ret2
        have e1 : l.take k = l := List.take_of_length_le (by rw [HQ.out]; exact Nat.le_refl _)
        have hA := HA.out
        rw [e1] at O hA
        have hW : writeB l = true := by simp [writeB, HQ.out, h80, hA]
        refine ⟨_, ret_two rfl (bool_eq hW.symm), ?_, K⟩
        rw [wroteN_yes hW, HQ.out]
        exact O
  · have hW : Hid (writeB l = false) := Lib.hid (by simp [writeB, HQ.out, h80])
    go_enter Tryz.func120, Tryz.ntmps120
    go_wp2_with fail
    go_ret2
    refine ⟨_, ret_two rfl (bool_eq hW.out.symm), ?_, (Below.refl _ _).alloc (Nat.le_refl _) _⟩
    rw [wroteN_no hW.out]
    exact OB.empty (Nat.le_refl _)
end Go.Proofs.YtdkmhaghnfhajaaGreat
/- Sa -/
set_option linter.unusedVariables false
namespace Go.Proofs.YtdkmhaghnfhajaaGreat
open Go.RowKit
/-- Block g holds n whole numbers, as x tells, and no more. -/
structure Cells (w : World) (g n : Nat) (x : Nat → Int) : Prop where
  it : ∃ cur, w.heap[g]? = some (.cells cur 2 (0, 0)) ∧ cur.size = n ∧ ∀ j, j < n → cur[j]? = some (.int .i64 (x j))
theorem Cells.lt {w : World} {g n : Nat} {x : Nat → Int} (h : Cells w g n x) : g < w.heap.size := by
  obtain ⟨cur, hh, _⟩ := h
  exact (Array.getElem?_eq_some_iff.1 hh).1
theorem Cells.at_ {w : World} {g n : Nat} {x : Nat → Int} (h : Cells w g n x) {j : Nat} (hj : j < n) : w.cell? ⟨g, j, none⟩ = some (.int .i64 (x j)) ∧ w.frozen? ⟨g, j, none⟩ = false := by
  obtain ⟨cur, hh, _, hc⟩ := h
  exact ⟨(cell_of_row _ _ _ _ _ _ hh).trans (hc j hj), frozen_of_row _ _ _ _ _ hh⟩
theorem Cells.set {w : World} {g n : Nat} {x : Nat → Int} (h : Cells w g n x) (i : Nat) (v : Int) : Cells (w.setCell ⟨g, i, none⟩ (.int .i64 v)) g n (fun j => if j = i then v else x j) := by
  obtain ⟨cur, hh, hs, hc⟩ := h
  refine ⟨cur.setIfInBounds i (.int .i64 v), ?_, by simp [hs], fun j hj => ?_⟩
  · rw [Go.Sort.setCell_eq]
    simp [Go.Sort.mapBlock, Array.getElem?_modify, hh, Go.Sort.onCells]
  · by_cases e : j = i
    · subst e
      simp [hs, hj]
    · rw [Array.getElem?_setIfInBounds_ne (fun he => e he.symm), hc j hj, if_neg e]
theorem Cells.congr {w : World} {g n : Nat} {x y : Nat → Int} (h : Cells w g n x) (e : ∀ j, j < n → x j = y j) : Cells w g n y := by
  obtain ⟨cur, hh, hs, hc⟩ := h
  exact ⟨cur, hh, hs, fun j hj => by rw [hc j hj, e j hj]⟩
theorem Cells.drewN {w : World} {g n : Nat} {x : Nat → Int} (h : Cells w g n x) (q : Nat) : Cells (w.drewN q) g n x := ⟨h.it⟩
/-- The same numbers, in whichever order and however often. -/
structure Same (n : Nat) (x y : Nat → Int) : Prop where
  there : ∀ j, j < n → ∃ k, k < n ∧ y k = x j
  back : ∀ k, k < n → ∃ j, j < n ∧ y k = x j
theorem Same.refl (n : Nat) (x : Nat → Int) : Same n x x := ⟨fun j hj => ⟨j, hj, rfl⟩, fun j hj => ⟨j, hj, rfl⟩⟩
/-- Up to m all rise (or stay), but for what lies at place j, which may be too small for its place. -/
def RiseBut (y : Nat → Int) (m j : Nat) : Prop := ∀ a b, a < b → b < m → b ≠ j → y a ≤ y b
def Rises (y : Nat → Int) (m : Nat) : Prop := ∀ a b, a < b → b < m → y a ≤ y b
theorem Rises.but {y : Nat → Int} {m : Nat} (h : Rises y m) : RiseBut y (m + 1) m := fun a b h1 h2 h3 => h a b h1 (by omega)
theorem RiseBut.stop {y : Nat → Int} {m j : Nat} (h : RiseBut y m j) (hs : j = 0 ∨ y (j - 1) ≤ y j) : Rises y m := fun a b h1 h2 => by
  by_cases e : b = j
  · subst e
    have h3 := hs.resolve_left (by omega)
    by_cases e2 : a = b - 1
    · subst e2; exact h3
    · exact Int.le_trans (h a (b - 1) (by omega) (by omega) (by omega)) h3
  · exact h a b h1 h2 e
end Go.Proofs.YtdkmhaghnfhajaaGreat
/- Sb -/
set_option linter.unusedVariables false
namespace Go.Proofs.YtdkmhaghnfhajaaGreat
open Go.RowKit

/-- Of the first m those that are not as the one ahead of them. -/
def dd (x : Nat → Int) : Nat → List Int
  | 0 => []
  | m + 1 => if m = 0 ∨ x m ≠ x (m - 1) then dd x m ++ [x m] else dd x m
theorem dd_new {x : Nat → Int} {m : Nat} (h : m = 0 ∨ x m ≠ x (m - 1)) : dd x (m + 1) = dd x m ++ [x m] := if_pos h
theorem dd_old {x : Nat → Int} {m : Nat} (hm : 0 < m) (h : x m = x (m - 1)) : dd x (m + 1) = dd x m := if_neg (by omega)
/-- Where no two neighbours are alike all stay. -/
theorem dd_all {x : Nat → Int} : ∀ {m : Nat}, (∀ j, 0 < j → j < m → x j ≠ x (j - 1)) → (dd x m).length = m ∧ ∀ j, j < m → x j = (dd x m).getD j 0
  | 0, _ => ⟨rfl, fun j hj => by omega⟩
  | m + 1, h => by
    obtain ⟨h1, h2⟩ := dd_all (m := m) fun j h0 hj => h j h0 (by omega)
    have hn : m = 0 ∨ x m ≠ x (m - 1) := by
      by_cases e : m = 0
      · exact .inl e
      · exact .inr (h m (by omega) (by omega))
    rw [dd_new hn]
    refine ⟨by simp [h1], fun j hj => ?_⟩
    by_cases e : j = m
    · subst e
      simp [List.getD, h1]
    · rw [h2 j (by omega)]
      simp [List.getD, List.getElem?_append_left (show j < (dd x m).length by omega)]

/-- Of the first m places' numbers those that stay lie ahead; behind them all is as it was. -/
structure Moved (x y : Nat → Int) (n m k : Nat) : Prop where
  len : (dd x m).length = k
  lt : k < m
  low : ∀ j, j < k → y j = (dd x m).getD j 0
  high : ∀ j, k ≤ j → j < n → y j = x j
theorem Moved.old {x y : Nat → Int} {n m k : Nat} (h : Moved x y n m k) (hm : 0 < m) (e : x m = x (m - 1)) : Moved x y n (m + 1) k := by
  obtain ⟨h1, h2, h3, h4⟩ := h
  exact ⟨by rw [dd_old hm e]; exact h1, by omega, by rw [dd_old hm e]; exact h3, h4⟩
theorem Moved.new {x y : Nat → Int} {n m k : Nat} (h : Moved x y n m k) (e : x m ≠ x (m - 1)) : Moved x (fun j => if j = k then x m else y j) n (m + 1) (k + 1) := by
  obtain ⟨h1, h2, h3, h4⟩ := h
  refine ⟨by rw [dd_new (.inr e)]; simp [h1], by omega, fun j hj => ?_, fun j h5 h6 => ?_⟩
  · rw [dd_new (.inr e)]
    by_cases e2 : j = k
    · rw [if_pos e2, e2]
      simp [List.getD, ← h1]
    · rw [if_neg e2, h3 j (by omega)]
      simp [List.getD, List.getElem?_append_left (show j < (dd x m).length by omega)]
  · rw [if_neg (by omega)]
    exact h4 j (by omega) h6

/-- What Compact leaves. -/
def Compacted (g n : Nat) (x : Nat → Int) (w : World) (e : Ending) (w' : World) : Prop :=
  e = .returned (.slice (some ⟨g, 0, none⟩) (dd x n).length n) ∧ ∃ y, Cells w' g n y ∧ (∀ j, j < (dd x n).length → y j = (dd x n).getD j 0) ∧ Keeps (· = g) w w'
theorem Compacted.same {g n : Nat} {x : Nat → Int} {w w' : World} (h : ∀ j, 0 < j → j < n → x j ≠ x (j - 1)) (hX : Cells w' g n x) (hK : Keeps (· = g) w w') : Compacted g n x w (.returned (.slice (some ⟨g, 0, none⟩) n n)) w' := by
  obtain ⟨h1, h2⟩ := dd_all h
  exact ⟨by rw [h1], x, hX, by rw [h1]; exact h2, hK⟩

end Go.Proofs.YtdkmhaghnfhajaaGreat
/- Sc -/
set_option linter.unusedVariables false
namespace Go.Proofs.YtdkmhaghnfhajaaGreat
open Go.RowKit

set_option maxRecDepth 100000 in
set_option maxHeartbeats 2000000 in
theorem specPodsOf_any (v : Value) (d : PlanD) (wanted : Int) (w : World) (h : IsPlan w w.heap.size v d) (hn : d.n0 ≤ 1048576) :
    Calls Tryz.prog 137 #[v, .int .i64 wanted] w (Listed w (found d d.n0 (fun i => d.x0 (i * 4 + 1)) wanted)) := by
  have P := Lib.hid h
  obtain ⟨⟨A0, A1, A2, A3, c0, c1, c2, c3, rfl, s0, s1, s2, s3⟩, b0, b1, b2, b3⟩ := h
  have S := Lib.hid s0
  have HN := Lib.hid hn
  have hn' : d.n0 ≤ 2 ^ 63 - 1 := by omega
  clear s0 s1 s2 s3 b0 b1 b2 b3 hn
  obtain ⟨i0, hi, hz0, hz1, hz2⟩ := info_parts info_i64
  have HI := Lib.hid hi
  have HZ0 := Lib.hid hz0
  have HZ1 := Lib.hid hz1
  have HZ2 := Lib.hid hz2
  clear hi hz0 hz1 hz2
  go_enter Tryz.func137, Tryz.ntmps137
  go_wp2
  have X1 := (Own.box w (planC A0 A1 A2 A3 d.n0 c0 d.n1 c1 d.n2 c2 d.n3 c3 d.l d.p d.t) 29).alloc (.cells #[] 2)
  have O1 : ((w.alloc (.cells (planC A0 A1 A2 A3 d.n0 c0 d.n1 c1 d.n2 c2 d.n3 c3 d.l d.p d.t) 29)).alloc (.cells #[] 2)).ownsRow (w.heap.size + 1) 2 1 (.slice (some ⟨w.heap.size + 1, 0, none⟩) 0 0) 0 [] := by
    have := World.ownsRow_made (base := w.heap.size + 1) (e := 2) (size := 1) (w.alloc (.cells (planC A0 A1 A2 A3 d.n0 c0 d.n1 c1 d.n2 c2 d.n3 c3 d.l d.p d.t) 29)) #[] 0 (by simp) (Nat.zero_le _) rfl
    simpa using this
  go_loopw [5, 6] (fun v i wr => ∃ k : Nat, k ≤ d.n0 ∧ i = .int .i64 k ∧ (k = 0 ∨ planOkB d = true) ∧ wr.ownsRow (w.heap.size + 1) 2 1 v (hits k (fun i => d.x0 (i * 4 + 1)) wanted).length ((hits k (fun i => d.x0 (i * 4 + 1)) wanted).map (Value.int .i64)) ∧
    Own w wr w.heap.size (planC A0 A1 A2 A3 d.n0 c0 d.n1 c1 d.n2 c2 d.n3 c3 d.l d.p d.t)) (fun _ i _ => d.n0 - (intOf i).toNat)
  case atStart => exact ⟨0, Nat.zero_le _, rfl, .inl rfl, O1, X1⟩
  case round =>
    clear O1 X1
    obtain ⟨k, hk, rfl, hor, O, X⟩ := hrel
    have HR := Lib.hid hor
    have HO := Lib.hid O
    clear hor O
    have hC := X.C
    have hz := X.z
    by_cases hlt : k < d.n0
    · cases hq : planOkB d
      · have HQ := Lib.hid hq
        go_wp2_with (go_at_call 47; refine (spec_planOk_any _ d _ ((P.out.below X.K (Nat.le_refl _)).more X.K.size)).mono ?_; rintro e w2 ⟨rfl, hb2⟩; have X2 := X.step hb2)
        go_ret
        refine ⟨_, rfl, ?_, X2.K⟩
        have hk0 : k = 0 := HR.out.resolve_right (by rw [HQ.out]; decide)
        rw [found_no HQ.out]
        have := ownsRow_base (ownsRow_below HO.out hb2) (Nat.le_succ _)
        rw [hk0] at this
        exact this
      · have HQ := Lib.hid hq
        have hle := hits_le k (fun i => d.x0 (i * 4 + 1)) wanted
        have h63 : (hits k (fun i => d.x0 (i * 4 + 1)) wanted).length + 1 ≤ maxLen := by have := HN.out; unfold maxLen; omega
        have hby : ((hits k (fun i => d.x0 (i * 4 + 1)) wanted).length + 1) * 8 ≤ 140737488355328 := by have := HN.out; omega
        have H63 := Lib.hid h63
        have HBY := Lib.hid hby
        clear h63 hby hle
        obtain ⟨b, off, rfl, hb, q0, q1, q2, q3⟩ := (S.out.own X).cell4 hlt
        cases hv : (d.x0 (k * 4 + 1) == wanted)
        · have HV := Lib.hid (hits_no (f := fun i => d.x0 (i * 4 + 1)) hv)
          go_wp2_with (go_at_call 47; refine (spec_planOk_any _ d _ ((P.out.below X.K (Nat.le_refl _)).more X.K.size)).mono ?_; rintro e w2 ⟨rfl, hb2⟩; have X2 := X.step hb2; have hC2 := X2.C; have hD2 := (bcell hb2).1)
          refine ⟨⟨k + 1, by omega, by go_num, .inr (by first | exact HQ.out | trivial), by rw [HV.out]; exact ownsRow_below HO.out hb2, X2⟩, by simp [intOf]; omega⟩
        · have HV := Lib.hid (hits_yes (f := fun i => d.x0 (i * 4 + 1)) hv)
          go_wp2_with (first
            | (go_at_call 47; refine (spec_planOk_any _ d _ ((P.out.below X.K (Nat.le_refl _)).more X.K.size)).mono ?_; rintro e w2 ⟨rfl, hb2⟩; have X2 := X.step hb2; have hC2 := X2.C; have hD2 := (bcell hb2).1)
            | (at_builtin; refine wpList_append_own _ rfl _ _ 25 rfl (w.heap.size + 1) 2 i0 (.int .i64 0) 1 8 Tryz.underlying25 HI.out HZ0.out HZ1.out HZ2.out rfl (by decide) _ _ _ rfl ((ownsRow_below HO.out hb2).alloc _) ⟨w2.heap.size, 0, none⟩ 1 1 [.int .i64 k] rfl rfl (cell_one_new _ _ _) (fun x hx => by simp at hx; subst hx; rfl) H63.out HBY.out (by have := X2.z; simp; omega) ?_; intro v' w4 hown' hgrow hnil))
          have X3 := X2.alloc (.cells #[.int .i64 k] 2)
          have OB := (ownsRow_below HO.out hb2)
          refine ⟨⟨k + 1, by omega, by go_num, .inr (by first | exact HQ.out | trivial), ?_, ?_⟩, by simp [intOf]; omega⟩
          · rw [HV.out]
            simpa using hown'
          · exact X3.grown hgrow fun g hg => by have := (OB.lt g hg).1; omega
    · obtain rfl : k = d.n0 := by omega
      go_wp2
      go_ret
      refine ⟨_, rfl, ?_, X.K⟩
      have := ownsRow_base HO.out (Nat.le_succ _)
      rcases HR.out with h0 | h1
      · cases hq : planOkB d
        · rw [found_no hq]
          rw [h0] at this
          exact this
        · rw [found_yes hq]; exact this
      · rw [found_yes h1]; exact this

theorem specPods_any (v : Value) (d : PlanD) (b : Int) (w : World) (h : IsPlan w w.heap.size v d) (hn : d.n0 ≤ 1048576) :
    Calls Tryz.prog 137 #[v, .int .i64 b] w (Listed w (podsL d b)) := specPodsOf_any v d b w h hn
end Go.Proofs.YtdkmhaghnfhajaaGreat
/- Sd -/
set_option linter.unusedVariables false
namespace Go.Proofs.YtdkmhaghnfhajaaGreat
open Go.RowKit

theorem Cells.owns {w : World} {g n : Nat} {y : Nat → Int} {L : List Int} (h : Cells w g n y) (hn : n ≤ 12) (hl : L.length ≤ n) (hL : ∀ j, j < L.length → y j = L.getD j 0) :
    w.ownsRow g 2 1 (.slice (some ⟨g, 0, none⟩) L.length n) L.length (L.map (Value.int .i64)) := by
  obtain ⟨cur, hh, hs, hc⟩ := h
  refine ⟨by simp, .inr ⟨g, n, cur, rfl, Nat.le_refl _, hh, hl, by unfold maxLen; omega, by omega, ?_⟩⟩
  rw [Nat.mul_one]
  refine List.ext_getElem? fun j => ?_
  by_cases hj : j < L.length
  · rw [List.getElem?_take_of_lt hj, Array.getElem?_toList, hc j (by omega), hL j hj]
    simp [List.getD, hj]
  · rw [List.getElem?_take_eq_none (by omega), List.getElem?_eq_none (by simp; omega)]

end Go.Proofs.YtdkmhaghnfhajaaGreat
/- Se -/
set_option linter.unusedVariables false
namespace Go.Proofs.YtdkmhaghnfhajaaGreat
open Go.RowKit Go.Sort

/-- Block g, of n whole numbers, is being filled: the first k are as f tells. -/
structure Filling (wr : World) (g n k : Nat) (f : Nat → Int) : Prop where
  it : ∃ cur, wr.heap[g]? = some (.cells cur 2 (0, 0)) ∧ cur.size = n ∧ ∀ j, j < k → cur[j]? = some (.int .i64 (f j))
theorem Filling.lt {wr : World} {g n k : Nat} {f : Nat → Int} (h : Filling wr g n k f) : g < wr.heap.size := by
  obtain ⟨cur, hh, _⟩ := h
  exact (Array.getElem?_eq_some_iff.1 hh).1
theorem Filling.below {wr w' : World} {g n k : Nat} {f : Nat → Int} (h : Filling wr g n k f) (hb : Below wr.heap.size wr w') : Filling w' g n k f := by
  have hl := h.lt
  obtain ⟨cur, hh, r⟩ := h
  exact ⟨cur, (hb.block g hl).trans hh, r⟩
theorem Filling.at_ {wr : World} {g n k i : Nat} {f : Nat → Int} (h : Filling wr g n k f) (hi : i < n) : ∃ v, wr.cell? ⟨g, i, none⟩ = some v ∧ wr.frozen? ⟨g, i, none⟩ = false := by
  obtain ⟨cur, hh, hs, _⟩ := h
  exact ⟨cur[i]'(by omega), (cell_of_row _ _ _ _ _ _ hh).trans (Array.getElem?_eq_getElem (by omega)), frozen_of_row _ _ _ _ _ hh⟩
theorem Filling.set {wr : World} {g n k : Nat} {f : Nat → Int} (h : Filling wr g n k f) (hk : k < n) : Filling (wr.setCell ⟨g, k, none⟩ (.int .i64 (f k))) g n (k + 1) f := by
  obtain ⟨cur, hh, hs, hc⟩ := h
  refine ⟨cur.setIfInBounds k (.int .i64 (f k)), ?_, by simp [hs], fun j hj => ?_⟩
  · rw [setCell_eq]
    simp [mapBlock, Array.getElem?_modify, hh, onCells]
  · by_cases e : j = k
    · subst e
      simp [hs, hk]
    · rw [Array.getElem?_setIfInBounds_ne (fun he => e he.symm)]
      exact hc j (by omega)
theorem made_emptyI (w : World) {B : Nat} (hB : B ≤ w.heap.size) : (w.alloc (.cells #[] 2)).ownsRow B 2 1 (.slice (some ⟨w.heap.size, 0, none⟩) 0 0) 0 [] := by
  have := World.ownsRow_made (base := B) (e := 2) (size := 1) w #[] 0 hB (Nat.zero_le _) rfl
  simpa using this
set_option maxRecDepth 100000 in
set_option maxHeartbeats 2000000 in
theorem specBands_any (v : Value) (d : PlanD) (w : World) (h : IsPlan w w.heap.size v d) (hn : d.n0 ≤ 1048576) :
    Calls Tryz.prog 140 #[v] w (Listed w (bandsL d)) := by
  have P := Lib.hid h
  have HN := Lib.hid hn
  obtain ⟨⟨A0, A1, A2, A3, c0, c1, c2, c3, rfl, s0, s1, s2, s3⟩, b0, b1, b2, b3⟩ := h
  clear s0 s1 s2 s3 b0 b1 b2 b3 hn
  obtain ⟨i0, hi, hz0, hz1, hz2⟩ := info_parts info_i64
  have HI := Lib.hid hi
  have HZ0 := Lib.hid hz0
  have HZ1 := Lib.hid hz1
  have HZ2 := Lib.hid hz2
  clear hi hz0 hz1 hz2
  go_enter Tryz.func140, Tryz.ntmps140
  go_wp2
  have X1 := (Own.box w (planC A0 A1 A2 A3 d.n0 c0 d.n1 c1 d.n2 c2 d.n3 c3 d.l d.p d.t) 29).alloc (.cells #[] 2)
  have O1 := made_emptyI (w.alloc (.cells (planC A0 A1 A2 A3 d.n0 c0 d.n1 c1 d.n2 c2 d.n3 c3 d.l d.p d.t) 29)) (B := w.heap.size + 1) (by simp)
  rw [heap_size_alloc_] at O1
  go_loopw [3, 4] (fun v i wr => ∃ k : Nat, k ≤ 6 ∧ i = .int .i64 k ∧ wr.ownsRow (w.heap.size + 1) 2 1 v (picks k (hasB d)).length ((picks k (hasB d)).map (Value.int .i64)) ∧
    Own w wr w.heap.size (planC A0 A1 A2 A3 d.n0 c0 d.n1 c1 d.n2 c2 d.n3 c3 d.l d.p d.t)) (fun _ i _ => 6 - (intOf i).toNat)
  case atStart => exact ⟨0, Nat.zero_le _, rfl, O1, X1⟩
  case round =>
    clear O1 X1
    obtain ⟨k, hk, rfl, O, X⟩ := hrel
    have HO := Lib.hid O
    clear O
    have hC := X.C
    have hz := X.z
    by_cases hlt : k < 6
    · have hle := picks_le k (hasB d)
      have h63 : (picks k (hasB d)).length + 1 ≤ maxLen := by unfold maxLen; omega
      have hby : ((picks k (hasB d)).length + 1) * 8 ≤ 140737488355328 := by omega
      have H63 := Lib.hid h63
      have HBY := Lib.hid hby
      clear h63 hby hle
      have hp := Lib.hid (specPods_any _ d k _ ((P.out.below X.K (Nat.le_refl _)).more X.K.size) HN.out)
      have hl0 := podsL_le d k
      have hl1 := HN.out
      have hl : (podsL d k).length ≤ 1048576 := by omega
      clear hl0 hl1
      cases hv : hasB d k
      · have HV := Lib.hid (picks_no hv)
        simp only [hasB, decide_eq_false_iff_not] at hv
        go_wp2_with (go_at_call 137; refine hp.out.mono ?_; rintro e w2 ⟨v', rfl, O2, hb2⟩; obtain ⟨A', c', g', rfl, -⟩ := open_list O2; have X2 := X.step hb2)
        refine ⟨⟨k + 1, by omega, by go_num, by rw [HV.out]; exact ownsRow_below HO.out hb2, X2⟩, by simp [intOf]; omega⟩
      · have HV := Lib.hid (picks_yes hv)
        simp only [hasB, decide_eq_true_eq] at hv
        go_wp2_with (first
          | (go_at_call 137; refine hp.out.mono ?_; rintro e w2 ⟨v', rfl, O2, hb2⟩; obtain ⟨A', c', g', rfl, -⟩ := open_list O2; have X2 := X.step hb2; clear O2)
          | (at_builtin; refine wpList_append_own _ rfl _ _ 25 rfl (w.heap.size + 1) 2 i0 (.int .i64 0) 1 8 Tryz.underlying25 HI.out HZ0.out HZ1.out HZ2.out rfl (by decide) _ _ _ rfl ((ownsRow_below HO.out hb2).alloc _) ⟨w2.heap.size, 0, none⟩ 1 1 [.int .i64 k] rfl rfl (cell_one_new _ _ _) (fun x hx => by simp at hx; subst hx; rfl) H63.out HBY.out (by have := X2.z; simp; omega) ?_; intro v' w4 hown' hgrow hnil))
        have X3 := X2.alloc (.cells #[.int .i64 k] 2)
        have OB := (ownsRow_below HO.out hb2)
        refine ⟨⟨k + 1, by omega, by go_num, ?_, ?_⟩, by simp [intOf]; omega⟩
        · rw [HV.out]
          simpa using hown'
        · exact X3.grown hgrow fun g hg => by have := (OB.lt g hg).1; omega
    · obtain rfl : k = 6 := by omega
      go_wp2
      go_ret
      exact ⟨_, rfl, ownsRow_base HO.out (Nat.le_succ _), X.K⟩
end Go.Proofs.YtdkmhaghnfhajaaGreat
/- Sf -/
set_option linter.unusedVariables false
namespace Go.Proofs.YtdkmhaghnfhajaaGreat
open Go.RowKit

theorem step_le {L : List Int} {b : Int} {k : Nat} (h : ∀ j, j < k → L.getD j 0 ≤ b) (hk : L.getD k 0 ≤ b) : ∀ j, j < k + 1 → L.getD j 0 ≤ b := fun j hj => by
  by_cases e : j = k
  · rw [e]; exact hk
  · exact h j (by omega)
theorem firstOver_hit {L : List Int} {b : Int} {k : Nat} (hk : k < L.length) (h : ∀ j, j < k → L.getD j 0 ≤ b) (hb : b < L.getD k 0) : firstOver L b = L.getD k 0 := by
  rw [getD_at hk] at hb ⊢
  exact firstOver_at hk (fun j hj => by have := h j hj; rwa [getD_at (by omega)] at this) hb
theorem firstOver_miss {L : List Int} {b : Int} (h : ∀ j, j < L.length → L.getD j 0 ≤ b) : firstOver L b = -1 := by
  refine firstOver_none fun x hx => ?_
  obtain ⟨j, hj, rfl⟩ := List.getElem_of_mem hx
  have := h j hj
  rwa [getD_at hj] at this

set_option maxRecDepth 100000 in
set_option maxHeartbeats 2000000 in
theorem specNext_any (v : Value) (d : PlanD) (b : Int) (w : World) (h : IsPlan w w.heap.size v d) (hn : d.n0 ≤ 1048576) :
    Calls Tryz.prog 133 #[v, .int .i64 b] w fun e w' => e = .returned (.int .i64 (nextL d b)) ∧ Below w.heap.size w w' := by
  have P := Lib.hid h
  have HN := Lib.hid hn
  obtain ⟨⟨A0, A1, A2, A3, c0, c1, c2, c3, rfl, s0, s1, s2, s3⟩, b0, b1, b2, b3⟩ := h
  clear s0 s1 s2 s3 b0 b1 b2 b3 hn
  go_enter Tryz.func133, Tryz.ntmps133
  go_wp2_with fail
  have X1 := Own.box w (planC A0 A1 A2 A3 d.n0 c0 d.n1 c1 d.n2 c2 d.n3 c3 d.l d.p d.t) 29
  refine (specBands_any _ d _ ((P.out.below X1.K (Nat.le_refl _)).more X1.K.size) HN.out).mono ?_
  rintro e w2 ⟨v', rfl, O2, hb⟩
  have K2 := Lib.hid (X1.step hb).K
  obtain ⟨A, c, g, rfl, hA, hg, hgl, R⟩ := open_list O2
  have HA := Lib.hid hA
  have hle := bandsL_le d
  have HF := Lib.hid (show ∀ x, firstOver (bandsL d) x = nextL d x from fun _ => rfl)
  clear X1 hb O2 hA hg hgl
  generalize bandsL d = L at *
  have HR := Lib.hid R
  clear R
  go_wp2
  go_loopw [6] (fun i wr => ∃ k : Nat, k ≤ L.length ∧ i = .int .i64 k ∧ wr = w2 ∧ ∀ j, j < k → L.getD j 0 ≤ b) (fun i _ => L.length - (intOf i).toNat)
  case atStart => exact ⟨0, Nat.zero_le _, rfl, rfl, fun j hj => absurd hj (by omega)⟩
  case round =>
    obtain ⟨k, hk, rfl, rfl, hall⟩ := hrel
    have HL := Lib.hid hall
    clear hall
    by_cases hlt : k < L.length
    · obtain rfl := HA.out (by omega)
      obtain ⟨t0, f0⟩ : wr.cell? ⟨g, k, none⟩ = some (.int .i64 (L.getD k 0)) ∧ wr.frozen? ⟨g, k, none⟩ = false := HR.out k hlt
      generalize hx : L.getD k 0 = x at t0
      have HX := Lib.hid hx
      clear hx
      by_cases hb : b < x
      · go_wp2
        go_ret
        exact ⟨ret_int (by rw [← HF.out, firstOver_hit hlt HL.out (by rw [HX.out]; exact hb), HX.out]), K2.out⟩
      · go_wp2
        exact ⟨⟨k + 1, by omega, by go_num, by trivial, step_le HL.out (by rw [HX.out]; omega)⟩, by simp [intOf]; omega⟩
    · obtain rfl : k = L.length := by omega
      go_wp2
      go_ret
      exact ⟨ret_int (by rw [← HF.out, firstOver_miss HL.out]), K2.out⟩
end Go.Proofs.YtdkmhaghnfhajaaGreat
/- Lw -/
set_option linter.unusedVariables false
namespace Go.Proofs.YtdkmhaghnfhajaaGreat
open Go.RowKit

theorem fieldO_any (x : Int) (w : World) :
    Calls Tryz.prog 49 #[.int .i64 x] w fun e w' => e = .returned (.bool (inB x 0 1000000)) ∧ w = w' := by
  go_enter Tryz.func49, Tryz.ntmps49
  go_wp2_with (go_at_call 48; refine (in_any _ _ _ _).mono ?_; rintro e w' ⟨rfl, rfl⟩)
  go_ret
  exact ⟨rfl, rfl⟩
def argsN (k : Int) : Int := if k = 3 ∨ k = 6 ∨ k = 7 ∨ k = 8 ∨ k = 9 ∨ k = 12 ∨ k = 13 then 1 else if k = 10 then 2 else 0
def orderOkB (k a b : Int) : Bool := inB k 1 13 && inB a 0 1000000 && inB b 0 1000000 && !(decide (argsN k < 1) && a != 0 || decide (argsN k < 2) && b != 0) && (k != 13 || decide (a ≤ 1))
abbrev ordC (k a b : Int) : Array Value := #[.int .i64 k, .int .i64 a, .int .i64 b]

set_option maxHeartbeats 4000000 in
theorem l13Args_any (k : Int) (w : World) : Calls Tryz.prog 116 #[.int .i64 k] w fun e w' => e = .returned (.int .i64 (argsN k)) ∧ w = w' := by
  have HH : Hid (argsN k = if k = 3 ∨ k = 6 ∨ k = 7 ∨ k = 8 ∨ k = 9 ∨ k = 12 ∨ k = 13 then 1 else if k = 10 then 2 else 0) := Lib.hid rfl
  by_cases e3 : k = 3
  · subst e3
    go_enter Tryz.func116, Tryz.ntmps116
    go_wp2
    all_goals (go_ret; exact ⟨by rw [HH.out]; rfl, rfl⟩)
  · have E3 := Lib.hid e3
    by_cases e6 : k = 6
    · subst e6
      go_enter Tryz.func116, Tryz.ntmps116
      go_wp2
      all_goals (go_ret; exact ⟨by rw [HH.out]; rfl, rfl⟩)
    · have E6 := Lib.hid e6
      by_cases e7 : k = 7
      · subst e7
        go_enter Tryz.func116, Tryz.ntmps116
        go_wp2
        all_goals (go_ret; exact ⟨by rw [HH.out]; rfl, rfl⟩)
      · have E7 := Lib.hid e7
        by_cases e8 : k = 8
        · subst e8
          go_enter Tryz.func116, Tryz.ntmps116
          go_wp2
          all_goals (go_ret; exact ⟨by rw [HH.out]; rfl, rfl⟩)
        · have E8 := Lib.hid e8
          by_cases e9 : k = 9
          · subst e9
            go_enter Tryz.func116, Tryz.ntmps116
            go_wp2
            all_goals (go_ret; exact ⟨by rw [HH.out]; rfl, rfl⟩)
          · have E9 := Lib.hid e9
            by_cases e12 : k = 12
            · subst e12
              go_enter Tryz.func116, Tryz.ntmps116
              go_wp2
              all_goals (go_ret; exact ⟨by rw [HH.out]; rfl, rfl⟩)
            · have E12 := Lib.hid e12
              by_cases e13 : k = 13
              · subst e13
                go_enter Tryz.func116, Tryz.ntmps116
                go_wp2
                all_goals (go_ret; exact ⟨by rw [HH.out]; rfl, rfl⟩)
              · have E13 := Lib.hid e13
                by_cases e10 : k = 10
                · subst e10
                  go_enter Tryz.func116, Tryz.ntmps116
                  go_wp2
                  all_goals (go_ret; exact ⟨by rw [HH.out]; rfl, rfl⟩)
                · have E10 := Lib.hid e10
                  go_enter Tryz.func116, Tryz.ntmps116
                  go_wp2
                  all_goals (go_ret; exact ⟨by rw [HH.out]; simp [E3.out, E6.out, E7.out, E8.out, E9.out, E12.out, E13.out, E10.out], rfl⟩)
theorem argsN_cases (k : Int) : argsN k = 0 ∨ argsN k = 1 ∨ argsN k = 2 := by
  unfold argsN
  split
  · simp
  · split <;> simp
set_option maxRecDepth 4000 in
set_option maxHeartbeats 8000000 in
theorem orderOk_any (k a b : Int) (w : World) : Calls Tryz.prog 109 #[.agg (ordC k a b)] w fun e w' => e = .returned (.bool (orderOkB k a b)) ∧ Below w.heap.size w w' := by
  obtain ⟨ans, hans⟩ : ∃ ans, orderOkB k a b = ans := ⟨_, rfl⟩
  rw [hans]
  have hn := argsN_cases k
  unfold orderOkB at hans
  generalize hN : argsN k = n at hans hn
  have HN := Lib.hid hN
  have HANS := Lib.hid hans
  clear hans hN
  have K := (Below.refl w.heap.size w).alloc (Nat.le_refl _) (.cells (ordC k a b) 55)
  go_enter Tryz.func109, Tryz.ntmps109
  go_wp2_with fail
  refine (in_any _ _ _ _).mono ?_
  rintro e w1 ⟨rfl, rfl⟩
  cases h1 : inB k 1 13
  · have H1 := Lib.hid h1
    clear h1
    go_wp2
    all_goals (go_ret; exact ⟨ret_bool (by rw [← HANS.out, H1.out]; simp), K⟩)
  · have H1 := Lib.hid h1
    clear h1
    go_wp2_with fail
    refine (fieldO_any _ _).mono ?_
    rintro e w1 ⟨rfl, rfl⟩
    cases h2 : inB a 0 1000000
    · have H2 := Lib.hid h2
      clear h2
      go_wp2
      all_goals (go_ret; exact ⟨ret_bool (by rw [← HANS.out, H2.out]; simp), K⟩)
    · have H2 := Lib.hid h2
      clear h2
      go_wp2_with fail
      refine (fieldO_any _ _).mono ?_
      rintro e w1 ⟨rfl, rfl⟩
      cases h3 : inB b 0 1000000
      · have H3 := Lib.hid h3
        clear h3
        go_wp2
        all_goals (go_ret; exact ⟨ret_bool (by rw [← HANS.out, H3.out]; simp), K⟩)
      · have H3 := Lib.hid h3
        clear h3
        have HANS2 : Hid (ans = (!(decide (n < 1) && a != 0 || decide (n < 2) && b != 0) && (k != 13 || decide (a ≤ 1)))) := Lib.hid (by rw [← HANS.out, H1.out, H2.out, H3.out]; simp)
        clear HANS H1 H2 H3
        go_wp2_with fail
        refine (l13Args_any _ _).mono ?_
        rw [HN.out]
        rintro e w1 ⟨rfl, rfl⟩
        clear HN
        cases h13 : (k != 13)
        all_goals cases ha : (a != 0)
        all_goals cases hb : (b != 0)
        all_goals by_cases hle : a ≤ 1
        all_goals
          have G13 := Lib.hid h13
          have GA := Lib.hid ha
          have GB := Lib.hid hb
          have GL := Lib.hid hle
          rcases hn with rfl | rfl | rfl
        all_goals
          go_wp2
          all_goals (go_ret; exact ⟨ret_bool (by rw [HANS2.out, G13.out, GA.out, GB.out]; have := GL.out; simp; try omega), K⟩)

end Go.Proofs.YtdkmhaghnfhajaaGreat
/- Zc -/
set_option linter.unusedVariables false
namespace Go.Proofs.YtdkmhaghnfhajaaGreat
open Go.RowKit

/-- Whole numbers as cells. -/
def cellsI (m : Nat) (x : Nat → Int) : List Value := (List.range m).map fun j => Value.int .i64 (x j)
theorem cellsI_len (m : Nat) (x : Nat → Int) : (cellsI m x).length = m := by simp [cellsI]
theorem cellsI_at {m j : Nat} (x : Nat → Int) (hj : j < m) : (cellsI m x)[j]? = some (.int .i64 (x j)) := by simp [cellsI, hj]
theorem cellsI_one (m : Nat) (x : Nat → Int) : ∀ u ∈ cellsI m x, u.oneCell' = true := by
  intro u hu
  obtain ⟨b, _, rfl⟩ := List.mem_map.1 hu
  rfl
theorem lk_cells (n : Nat) (x : Nat → Int) : lkCs ((List.range n).map x) = cellsI n x := by simp [lkCs, cellsI, Function.comp_def]
theorem Sl.slv {w : World} {B k n : Nat} {A : Option Addr} {x : Nat → Int} (h : Sl w B k A n x) : SlV w B k A n (cellsI (n * k) x) :=
  ⟨cellsI_len _ _, fun hn => by
    obtain ⟨b, off, e, hb, hc⟩ := h hn
    exact ⟨b, off, e, hb, fun j hj => by rw [hc j hj, cellsI_at x hj]⟩⟩
theorem OI.of_cells {w : World} {B e k n : Nat} {v : Value} {x : Nat → Int} (h : w.ownsRow B e k v n (cellsI (n * k) x)) : OI w B e k v n x := ⟨_, h, fun j hj => cellsI_at x hj⟩
theorem OI.formR {w : World} {B e k n : Nat} {v : Value} {x : Nat → Int} (h : OI w B e k v n x) : ∃ A c, v = .slice A n c ∧ (A = none → c = 0) ∧ Sl w w.heap.size k A n x := by
  obtain ⟨A', c', hv', hs, -⟩ := h.form
  obtain ⟨xs, hown, -⟩ := h
  obtain ⟨A, c, hv, hr, -⟩ := open_rowR hown
  rw [hv] at hv'
  injection hv' with h1 h2 h3
  subst h1 h3
  exact ⟨A, c, hv, hr, hs⟩
/-- How many cells a plan's lists are at most. -/
structure PlFits (d : PlanD) : Prop where
  f0 : d.n0 ≤ 1048576
  f1 : d.n1 ≤ 1048576
  f2 : d.n2 ≤ 1048576
  f3 : d.n3 ≤ 1048576
/-- A plan that can be read, its lists real slices and small. -/
structure IsPlR (w : World) (B : Nat) (v : Value) (d : PlanD) : Prop where
  it : ∃ A0 A1 A2 A3 c0 c1 c2 c3, v = planV A0 A1 A2 A3 d.n0 c0 d.n1 c1 d.n2 c2 d.n3 c3 d.l d.p d.t ∧ (Sl w B 4 A0 d.n0 d.x0 ∧ Sl w B 1 A1 d.n1 d.x1 ∧ Sl w B 2 A2 d.n2 d.x2 ∧ Sl w B 1 A3 d.n3 d.x3) ∧
    (A0 = none → c0 = 0) ∧ (A1 = none → c1 = 0) ∧ (A2 = none → c2 = 0) ∧ (A3 = none → c3 = 0)
  fit : PlFits d
theorem IsPlR.below {w w' : World} {B B' : Nat} {v : Value} {d : PlanD} (h : IsPlR w B v d) (hb : Below B' w w') (hB : B ≤ B') : IsPlR w' B v d := by
  obtain ⟨⟨A0, A1, A2, A3, c0, c1, c2, c3, hv, ⟨h0, h1, h2, h3⟩, hr⟩, hf⟩ := h
  exact ⟨⟨A0, A1, A2, A3, c0, c1, c2, c3, hv, ⟨h0.below hb hB, h1.below hb hB, h2.below hb hB, h3.below hb hB⟩, hr⟩, hf⟩
theorem IsPlR.more {w : World} {B B' : Nat} {v : Value} {d : PlanD} (h : IsPlR w B v d) (hB : B ≤ B') : IsPlR w B' v d := by
  obtain ⟨⟨A0, A1, A2, A3, c0, c1, c2, c3, hv, ⟨h0, h1, h2, h3⟩, hr⟩, hf⟩ := h
  exact ⟨⟨A0, A1, A2, A3, c0, c1, c2, c3, hv, ⟨h0.more hB, h1.more hB, h2.more hB, h3.more hB⟩, hr⟩, hf⟩
theorem IsPlR.go {w w' : World} {v : Value} {d : PlanD} (h : IsPlR w w.heap.size v d) (hb : Below w.heap.size w w') : IsPlR w' w'.heap.size v d := (h.below hb (Nat.le_refl _)).more hb.size
theorem IsPlR.is {w : World} {B : Nat} {v : Value} {d : PlanD} (h : IsPlR w B v d) : IsPlan w B v d := by
  obtain ⟨⟨A0, A1, A2, A3, c0, c1, c2, c3, hv, ⟨h0, h1, h2, h3⟩, -⟩, f0, f1, f2, f3⟩ := h
  have hm : 1048576 ≤ maxLen := by unfold maxLen; decide
  exact ⟨⟨A0, A1, A2, A3, c0, c1, c2, c3, hv, h0, h1, h2, h3⟩, by omega, by omega, by omega, by omega⟩
theorem Lists.plR {w : World} {B : Nat} {v0 v1 v2 v3 : Value} {d : PlanD} (h : Lists w B v0 v1 v2 v3 d) (hf : PlFits d) : IsPlR w w.heap.size (.agg #[v0, v1, v2, v3, .int .i64 d.l, .int .i64 d.p, .int .i64 d.t]) d := by
  obtain ⟨A0, c0, rfl, r0, s0⟩ := h.o0.formR
  obtain ⟨A1, c1, rfl, r1, s1⟩ := h.o1.formR
  obtain ⟨A2, c2, rfl, r2, s2⟩ := h.o2.formR
  obtain ⟨A3, c3, rfl, r3, s3⟩ := h.o3.formR
  exact ⟨⟨_, _, _, _, _, _, _, _, rfl, ⟨s0, s1, s2, s3⟩, r0, r1, r2, r3⟩, hf⟩
theorem PlFits.of_ok {d : PlanD} (h : planOkB d = true) : PlFits d := by
  simp only [planOkB, sizesB, Bool.and_eq_true, decide_eq_true_eq] at h
  exact ⟨by omega, by omega, by omega, by omega⟩
/-- What makes a plan of the call's own answers. -/
def MadePl (w : World) (d : PlanD) (e : Ending) (w' : World) : Prop :=
  ∃ v0 v1 v2 v3, e = .returned (.agg #[v0, v1, v2, v3, .int .i64 d.l, .int .i64 d.p, .int .i64 d.t]) ∧ Lists w' w.heap.size v0 v1 v2 v3 d ∧ Below w.heap.size w w'

set_option maxRecDepth 4000 in
set_option maxHeartbeats 4000000 in
theorem l15PlanCopy_any (v : Value) (d : PlanD) (w : World) (h : IsPlR w w.heap.size v d) : Calls Tryz.prog 51 #[v] w (MadePl w d) := by
  obtain ⟨⟨A0_, A1_, A2_, A3_, c0, c1, c2, c3, rfl, ⟨s0, s1, s2, s3⟩, r0, r1, r2, r3⟩, f0, f1, f2, f3⟩ := h
  obtain ⟨n0, n1, n2, n3, x0, x1, x2, x3, l, p, t⟩ := d
  dsimp only at *
  have S0 := Lib.hid s0.slv
  have S1 : Hid (SlV w w.heap.size 1 A1_ n1 (lkCs ((List.range n1).map x1))) := Lib.hid (by rw [lk_cells]; have := s1.slv; rwa [Nat.mul_one] at this)
  have S2 := Lib.hid s2.slv
  have S3 := Lib.hid s3.slv
  have R0 := Lib.hid r0
  have F0 := Lib.hid f0
  have R1 := Lib.hid r1
  have F1 := Lib.hid f1
  have R2 := Lib.hid r2
  have F2 := Lib.hid f2
  have R3 := Lib.hid r3
  have F3 := Lib.hid f3
  clear s0 s1 s2 s3 r0 r1 r2 r3 f0 f1 f2 f3
  obtain ⟨i0, hi, hz0, hz1, hz2⟩ := info_parts info_pod
  have HI := Lib.hid hi
  have HZ0 := Lib.hid hz0
  have HZ1 := Lib.hid hz1
  have HZ2 := Lib.hid hz2
  clear hi hz0 hz1 hz2
  obtain ⟨i1, hi, hz0, hz1, hz2⟩ := info_parts info_mount
  have GI := Lib.hid hi
  have GZ0 := Lib.hid hz0
  have GZ1 := Lib.hid hz1
  have GZ2 := Lib.hid hz2
  clear hi hz0 hz1 hz2
  obtain ⟨i2, hi, hz0, hz1, hz2⟩ := info_parts info_device
  have DI := Lib.hid hi
  have DZ0 := Lib.hid hz0
  have DZ1 := Lib.hid hz1
  have DZ2 := Lib.hid hz2
  clear hi hz0 hz1 hz2
  have T0 := Two.start w (planC A0_ A1_ A2_ A3_ n0 c0 n1 c1 n2 c2 n3 c3 l p t) (planC none none none none 0 0 0 0 0 0 0 0 0 0 0) 29 29
  have HW : Hid (((w.alloc (.cells (planC A0_ A1_ A2_ A3_ n0 c0 n1 c1 n2 c2 n3 c3 l p t) 29)).alloc (.cells (planC none none none none 0 0 0 0 0 0 0 0 0 0 0) 29)).heap.size = w.heap.size + 1 + 1) := Lib.hid (by simp)
  go_enter Tryz.func51, Tryz.ntmps51
  go_wp2_with (first
      | (at_builtin
         have AS3 := A3.set (Nat.le_refl _) (i := 2) (by simp) (.slice B2 n2 e2)
         have OS3 := O3.far (p := ⟨w.heap.size, 2, none⟩) (Nat.le_refl _) (by simp) (.slice B2 n2 e2)
         have HQ30 := Lib.hid (ownsRow_setCell_below (HO20).out (a := ⟨w.heap.size, 2, none⟩) (by simp) (.slice B2 n2 e2))
         have HQ31 := Lib.hid (ownsRow_setCell_below (HO21).out (a := ⟨w.heap.size, 2, none⟩) (by simp) (.slice B2 n2 e2))
         have HQ32 := Lib.hid (ownsRow_setCell_below (HO22).out (a := ⟨w.heap.size, 2, none⟩) (by simp) (.slice B2 n2 e2))
         refine wpList_append_slv rfl _ _ 27 79 i2 (.agg #[.int .i64 0]) 1 8 rfl Tryz.underlying27 DI.out DZ0.out DZ1.out DZ2.out rfl (by decide) (by decide) (w.heap.size + 2) _ 0 [] rfl (made_at _ _ _ _ _ (by simp) OS3.z) A3_ n3 c3 (cellsI (n3 * 1) x3) rfl R3.out (S3.out.below (AS3.K.alloc AS3.K.size _) (Nat.le_refl _)) (cellsI_one _ _) (by have := F3.out; omega) (le_alloc OS3.z) ?_
         intro v3 w5 hown hgrow
         have K3 := grown_at (by simp) hgrow
         replace hown : w5.ownsRow (w.heap.size + 2) 79 1 v3 n3 (cellsI (n3 * 1) x3) := by simpa using hown
         clear hgrow
         have A4 := AS3.step K3
         have O4 := OS3.step K3
         obtain ⟨B3, e3, rfl, -⟩ := open_rowR hown
         have HO33 := Lib.hid hown
         have HO30 := Lib.hid (ownsRow_below HQ30.out K3)
         have HO31 := Lib.hid (ownsRow_below HQ31.out K3)
         have HO32 := Lib.hid (ownsRow_below HQ32.out K3)
         clear hown K3 hC hF hz AS3 OS3 A3 O3
         have hC := A4.C
         have hF := A4.F
         have hz := A4.z
         have hD := O4.C
         have hG := O4.F)
      | (at_builtin
         have AS2 := A2.set (Nat.le_refl _) (i := 1) (by simp) (.slice B1 n1 e1)
         have OS2 := O2.far (p := ⟨w.heap.size, 1, none⟩) (Nat.le_refl _) (by simp) (.slice B1 n1 e1)
         have HQ20 := Lib.hid (ownsRow_setCell_below (HO10).out (a := ⟨w.heap.size, 1, none⟩) (by simp) (.slice B1 n1 e1))
         have HQ21 := Lib.hid (ownsRow_setCell_below (HO11).out (a := ⟨w.heap.size, 1, none⟩) (by simp) (.slice B1 n1 e1))
         refine wpList_append_slv rfl _ _ 26 69 i1 (.agg #[.int .i64 0, .int .i64 0]) 2 16 rfl Tryz.underlying26 GI.out GZ0.out GZ1.out GZ2.out rfl (by decide) (by decide) (w.heap.size + 2) _ 0 [] rfl (made_at _ _ _ _ _ (by simp) OS2.z) A2_ n2 c2 (cellsI (n2 * 2) x2) rfl R2.out (S2.out.below (AS2.K.alloc AS2.K.size _) (Nat.le_refl _)) (cellsI_one _ _) (by have := F2.out; omega) (le_alloc OS2.z) ?_
         intro v2 w4 hown hgrow
         have K2 := grown_at (by simp) hgrow
         replace hown : w4.ownsRow (w.heap.size + 2) 69 2 v2 n2 (cellsI (n2 * 2) x2) := by simpa using hown
         clear hgrow
         have A3 := AS2.step K2
         have O3 := OS2.step K2
         obtain ⟨B2, e2, rfl, -⟩ := open_rowR hown
         have HO22 := Lib.hid hown
         have HO20 := Lib.hid (ownsRow_below HQ20.out K2)
         have HO21 := Lib.hid (ownsRow_below HQ21.out K2)
         clear hown K2 hC hF hz AS2 OS2 A2 O2
         have hC := A3.C
         have hF := A3.F
         have hz := A3.z)
      | (go_at_call 90
         have AS1 := A1.set (Nat.le_refl _) (i := 0) (by simp) (.slice B0 n0 e0)
         have OS1 := O1.far (p := ⟨w.heap.size, 0, none⟩) (Nat.le_refl _) (by simp) (.slice B0 n0 e0)
         have HQ10 := Lib.hid (ownsRow_setCell_below (HO00).out (a := ⟨w.heap.size, 0, none⟩) (by simp) (.slice B0 n0 e0))
         refine (l1Copy_any A1_ n1 c1 ((List.range n1).map x1) _ ((S1.out.below AS1.K (Nat.le_refl _)).more AS1.K.size) R1.out F1.out).mono ?_
         rintro e w3 ⟨v1, rfl, hown, K1⟩
         replace hown : w3.ownsRow (w.heap.size + 2) 2 1 v1 n1 (lkCs ((List.range n1).map x1)) := ownsRow_base hown OS1.z
         have A2 := AS1.step K1
         have O2 := OS1.step K1
         obtain ⟨B1, e1, rfl, -⟩ := open_rowR hown
         have HO11 := Lib.hid hown
         have HO10 := Lib.hid (ownsRow_below HQ10.out K1)
         clear hown K1 hC hF hz AS1 OS1 A1 O1
         have hC := A2.C
         have hF := A2.F
         have hz := A2.z)
      | (at_builtin
         refine wpList_append_slv rfl _ _ 24 62 i0 (.agg #[.int .i64 0, .int .i64 0, .int .i64 0, .int .i64 0]) 4 32 rfl Tryz.underlying24 HI.out HZ0.out HZ1.out HZ2.out rfl (by decide) (by decide) (w.heap.size + 2) _ 0 [] rfl (made_at _ _ _ _ _ HW.out T0.O.z) A0_ n0 c0 (cellsI (n0 * 4) x0) rfl R0.out (S0.out.below (T0.A.K.alloc T0.A.K.size _) (Nat.le_refl _)) (cellsI_one _ _) (by have := F0.out; omega) (le_alloc T0.O.z) ?_
         intro v0 w2 hown hgrow
         have K0 := grown_at HW.out hgrow
         replace hown : w2.ownsRow (w.heap.size + 2) 62 4 v0 n0 (cellsI (n0 * 4) x0) := by simpa using hown
         clear hgrow
         have A1 := T0.A.step K0
         have O1 := T0.O.step K0
         obtain ⟨B0, e0, rfl, -⟩ := open_rowR hown
         have HO00 := Lib.hid hown
         clear hown K0 T0 HW
         have hC := A1.C
         have hF := A1.F
         have hz := A1.z))
  refine bodyPost_ret (v := .agg (planC B0 B1 B2 B3 n0 e0 n1 e1 n2 e2 n3 e3 l p t)) ?_ rfl ⟨_, _, _, _, rfl, ⟨OI.of_cells ?_, OI.of_cells ?_, OI.of_cells ?_, OI.of_cells ?_⟩, ?_⟩
  · simp [results, Tryz.results51, go_sem, hD]
  · refine ownsRow_base (base := w.heap.size + 2) ?_ (by omega)
    iterate 8 (refine ownsRow_setCell_below ?_ (by simp) _)
    exact HO30.out
  · rw [Nat.mul_one, ← lk_cells]
    refine ownsRow_base (base := w.heap.size + 2) ?_ (by omega)
    iterate 8 (refine ownsRow_setCell_below ?_ (by simp) _)
    exact HO31.out
  · refine ownsRow_base (base := w.heap.size + 2) ?_ (by omega)
    iterate 8 (refine ownsRow_setCell_below ?_ (by simp) _)
    exact HO32.out
  · refine ownsRow_base (base := w.heap.size + 2) ?_ (by omega)
    iterate 8 (refine ownsRow_setCell_below ?_ (by simp) _)
    exact HO33.out
  · iterate 8 (refine Below.setCell ?_ (by simp) _)
    exact A4.K
end Go.Proofs.YtdkmhaghnfhajaaGreat
/- Ea -/
set_option linter.unusedVariables false
namespace Go.Proofs.YtdkmhaghnfhajaaGreat
open Go.RowKit

theorem sumN_take {L : List Nat} {k : Nat} (hk : k < L.length) : sumN (L.take (k + 1)) = (31 * sumN (L.take k) + L.getD k 0) % 65521 := by
  rw [List.take_succ_eq_append_getElem hk]
  unfold sumN
  rw [List.foldl_append]
  simp [List.getD, hk]
theorem at2_drop (L : List Nat) (p i : Nat) : at2 (L.drop p) i = at2 L (p + i) := by
  unfold at2
  rw [getD_drop, getD_drop, Nat.add_assoc]
theorem at2_lt {L : List Nat} (h : SmallB L) (i : Nat) : at2 L i < 65536 := by
  have h0 := h.getD i
  have h1 := h.getD (i + 1)
  unfold at2
  omega

set_option maxHeartbeats 1000000 in
theorem specSumOf_any (v : Value) (L : List Nat) (w : World) (h : Bt w w.heap.size v L) :
    Calls Tryz.prog 108 #[v] w fun e w' => e = .returned (.int .i64 (sumN L)) ∧ w = w' := by
  have H := Lib.hid h
  obtain ⟨⟨A, c, rfl, hcap, -⟩, hl, hs⟩ := h
  have HS := Lib.hid hs
  have hl' : L.length ≤ 2 ^ 63 - 1 := by unfold maxLen at hl; omega
  clear hs hl hcap
  generalize hn : L.length = n at *
  have HN := Lib.hid hn
  clear hn
  go_enter Tryz.func108, Tryz.ntmps108
  go_wp2
  go_loop [3, 4] (fun s3 s4 => ∃ k : Nat, k ≤ n ∧ s4 = .int .i64 k ∧ s3 = .int .i64 (sumN (L.take k))) (fun _ s4 => n - (intOf s4).toNat)
  case atStart => exact ⟨0, Nat.zero_le _, rfl, rfl⟩
  case round =>
    obtain ⟨k, hk, rfl, rfl⟩ := hrel
    by_cases hlt : k < n
    · obtain ⟨b, off, rfl, hb, q⟩ := H.out.cell (k := k) (by rw [HN.out]; exact hlt)
      have zlt := HS.out.getD k
      have hsum := Lib.hid (sumN_take (L := L) (k := k) (by rw [HN.out]; exact hlt))
      have slt := sumN_lt (L.take k)
      generalize L.getD k 0 = z at *
      generalize sumN (L.take k) = s at *
      go_wp2
      refine ⟨⟨k + 1, by omega, by go_num, ?_⟩, by simp [intOf]; omega⟩
      rw [hsum.out]
      go_num
    · obtain rfl : k = n := by omega
      have e1 := Lib.hid (show L.take k = L from List.take_of_length_le (by rw [HN.out]; exact Nat.le_refl _))
      go_wp2
      go_ret
      exact ⟨by rw [e1.out]; rfl, rfl⟩

set_option maxHeartbeats 1000000 in
theorem l4Of_any (v : Value) (L : List Nat) (i : Nat) (q : Int) (hq : q = i) (w : World) (h : Bt w w.heap.size v L) (hi : i + 1 < L.length) :
    Calls Tryz.prog 106 #[v, .int .i64 q] w fun e w' => e = .returned (.int .i64 (at2 L i)) ∧ Below w.heap.size w w' := by
  subst hq
  have H := Lib.hid h
  obtain ⟨⟨A, c, rfl, hcap, -⟩, hl, hs⟩ := h
  have hl' : L.length ≤ 2 ^ 63 - 1 := by unfold maxLen at hl; omega
  obtain ⟨b, off, rfl, hb, q0⟩ := H.out.cell (k := i) (by omega)
  obtain ⟨b', off', e, hb', q1⟩ := H.out.cell (k := i + 1) (by omega)
  injection e with e
  injection e with e1 e2
  subst e1 e2
  have z0 := hs.getD i
  have z1 := hs.getD (i + 1)
  have hat := Lib.hid (show at2 L i = L.getD i 0 + 256 * L.getD (i + 1) 0 from rfl)
  generalize at2 L i = a at *
  generalize L.getD i 0 = x at *
  generalize L.getD (i + 1) 0 = y at *
  clear hs hl hcap
  generalize L.length = n at *
  go_enter Tryz.func106, Tryz.ntmps106
  go_wp2_with fail
  go_quiet (fail)
  go_wp2
  go_ret
  exact ⟨by rw [hat.out]; congr 1, below_drewN (Below.refl _ _) _⟩
end Go.Proofs.YtdkmhaghnfhajaaGreat
