/-
  The model's draws of records.
-/
import Derived.Test.YtoddmijfdmjfbaaGreatMZ4
import Derived.Laws.AppendOwnNone
import Derived.Test.YtoddmijfdmjfbaaGreatMZ0
import Derived.Sort.Row
import Derived.RegionTactic
import Derived.BigRegion
import Derived.Lib.SliceRun
import Derived.Test.YtoddmijfdmjfbaaGreatMZ1
import Derived.Test.YtoddmijfdmjfbaaGreatMZ2
import Derived.Deep.RegionHeld3
import Derived.Deep.RegionLaw
/- Fj -/
set_option linter.unusedVariables false
namespace Go.Proofs.YtoddmijfdmjfbaaGreat
open Go.RowKit

/-- A slice that has a place, or nil. -/
def Real (v : Value) : Prop := v = .slice none 0 0 ∨ ∃ ad m c, v = .slice (some ad) m c
theorem OB.real {w : World} {B : Nat} {v : Value} {L : List Nat} (h : OB w B v L) : Real v := by
  rcases h.own.2 with ⟨h0, -⟩ | ⟨g, cap, cur, rfl, -⟩
  · exact .inl h0
  · exact .inr ⟨_, _, _, rfl⟩
def headOf (v : Value) (p : Nat) : Value := match v with
  | .slice none _ _ => .slice none 0 0
  | .slice (some ad) _ c => .slice (some ad) p c
  | v => v
theorem Real.head {v : Value} (h : Real v) (p : Nat) : Real (headOf v p) := by
  rcases h with rfl | ⟨ad, m, c, rfl⟩
  · exact .inl rfl
  · exact .inr ⟨_, _, _, rfl⟩
theorem Bt.slice_len {w : World} {B : Nat} {A : Option Addr} {m c : Nat} {L : List Nat} (h : Bt w B (.slice A m c) L) : L.length = m ∧ m ≤ c := by
  obtain ⟨⟨A', c1, hv, hcap, hc⟩, hl, hs⟩ := h
  injection hv with h1 h2 h3
  subst h2 h3
  exact ⟨rfl, hcap⟩
theorem Bt.head {w : World} {B p : Nat} {v : Value} {L : List Nat} (h : Bt w B v L) (hr : Real v) (hp : p ≤ L.length) : Bt w B (headOf v p) (L.take p) := by
  rcases hr with rfl | ⟨ad, m, c, rfl⟩
  · have e := h.slice_len.1
    have : L = [] := List.eq_nil_of_length_eq_zero e
    subst this
    simpa [headOf] using Bt.nil w B none 0
  · exact h.take hp (by have := h.slice_len; omega)

theorem wpList_append_bt {w : World} {ops : Array Oper} {rest : List Oper} {o : Oper} {a : Act} {Q : Exit → Act → World → Prop} (hgd : o.guard = none) (s x : Operand)
    (ho : o.op = .call { callee := .builtin .append, args := #[s, x], argTypes := #[22, 22] }) (base : Nat) (v : Value) (M : List Nat) (hs : a.eval s = v) (hown : OB w base v M)
    (u : Value) (L : List Nat) (hx : a.eval x = u) {B : Nat} (hb : Bt w B u L) (hr : Real u) (hlen : M.length + L.length ≤ 8388608) (hbase : base ≤ w.heap.size)
    (h : ∀ v' w', OB w' base v' (M ++ L) → w.grownBy w' v.ownBlock → wpList Tryz.prog ops Q rest (a.put o.dst v') w') : wpList Tryz.prog ops Q (o :: rest) a w := by
  obtain ⟨i0, hi, hz0, hz1, hz2⟩ := info_parts info_u8
  rcases hr with rfl | ⟨ad, m, c, rfl⟩
  · have hL : L = [] := List.eq_nil_of_length_eq_zero hb.slice_len.1
    subst hL
    refine wpList_append_own_none hgd s x 22 ho base 5 i0 1 Tryz.underlying22 hi v M.length _ hs hown.own hx ?_
    have := h v w (by rw [List.append_nil]; exact hown) ⟨rfl, rfl, rfl, Nat.le_refl _, fun _ _ _ => rfl⟩
    exact this
  · obtain ⟨hm, hmc⟩ := hb.slice_len
    refine wpList_append_own w hgd s x 22 ho base 5 i0 (.int .u8 0) 1 1 Tryz.underlying22 hi hz0 hz1 hz2 rfl (by decide) v M.length _ hs hown.own ad m c (L.map byteV) hx (by rw [List.length_map, hm, Nat.mul_one]) ?_ one_bytes (by unfold maxLen; omega) (by omega) hbase ?_
    · intro j y hy
      have hj : j < L.length := by
        have := (List.getElem?_eq_some_iff.1 hy).1
        simpa using this
      rw [byteV_get hj] at hy
      cases hy
      obtain ⟨b, off, e, hb1, q⟩ := hb.cell hj
      cases e
      have ha : (⟨b, off, none⟩ : Addr).add j = ⟨b, off + j, none⟩ := by unfold Addr.add; split <;> simp_all
      rw [ha]
      exact q
    · intro v' w' h1 h2 _
      exact h v' w' ⟨by rw [List.length_append, List.map_append, hm]; exact h1, hown.small.append hb.small⟩ h2
end Go.Proofs.YtoddmijfdmjfbaaGreat
/- Sa -/
set_option linter.unusedVariables false
namespace Go.Proofs.YtoddmijfdmjfbaaGreat
open Go.RowKit
/-- Block g holds n whole numbers, as x tells, and no more. -/
structure Cells (w : World) (g n : Nat) (x : Nat → Int) : Prop where
  it : ∃ cur, w.heap[g]? = some (.cells cur 2 (0, 0)) ∧ cur.size = n ∧ ∀ j, j < n → cur[j]? = some (.int .i64 (x j))
theorem Cells.lt {w : World} {g n : Nat} {x : Nat → Int} (h : Cells w g n x) : g < w.heap.size := by
  obtain ⟨cur, hh, _⟩ := h
  exact (Array.getElem?_eq_some_iff.1 hh).1
theorem Cells.at_ {w : World} {g n : Nat} {x : Nat → Int} (h : Cells w g n x) {j : Nat} (hj : j < n) : w.cell? ⟨g, j, none⟩ = some (.int .i64 (x j)) ∧ w.frozen? ⟨g, j, none⟩ = false := by
  obtain ⟨cur, hh, _, hc⟩ := h
  exact ⟨(cell_of_row _ _ _ _ _ _ hh).trans (hc j hj), frozen_of_row _ _ _ _ _ hh⟩
theorem Cells.set {w : World} {g n : Nat} {x : Nat → Int} (h : Cells w g n x) (i : Nat) (v : Int) : Cells (w.setCell ⟨g, i, none⟩ (.int .i64 v)) g n (fun j => if j = i then v else x j) := by
  obtain ⟨cur, hh, hs, hc⟩ := h
  refine ⟨cur.setIfInBounds i (.int .i64 v), ?_, by simp [hs], fun j hj => ?_⟩
  · rw [Go.Sort.setCell_eq]
    simp [Go.Sort.mapBlock, Array.getElem?_modify, hh, Go.Sort.onCells]
  · by_cases e : j = i
    · subst e
      simp [hs, hj]
    · rw [Array.getElem?_setIfInBounds_ne (fun he => e he.symm), hc j hj, if_neg e]
theorem Cells.congr {w : World} {g n : Nat} {x y : Nat → Int} (h : Cells w g n x) (e : ∀ j, j < n → x j = y j) : Cells w g n y := by
  obtain ⟨cur, hh, hs, hc⟩ := h
  exact ⟨cur, hh, hs, fun j hj => by rw [hc j hj, e j hj]⟩
theorem Cells.drewN {w : World} {g n : Nat} {x : Nat → Int} (h : Cells w g n x) (q : Nat) : Cells (w.drewN q) g n x := ⟨h.it⟩
/-- The same numbers, in whichever order and however often. -/
structure Same (n : Nat) (x y : Nat → Int) : Prop where
  there : ∀ j, j < n → ∃ k, k < n ∧ y k = x j
  back : ∀ k, k < n → ∃ j, j < n ∧ y k = x j
theorem Same.refl (n : Nat) (x : Nat → Int) : Same n x x := ⟨fun j hj => ⟨j, hj, rfl⟩, fun j hj => ⟨j, hj, rfl⟩⟩
/-- y with what lies at two places put each in the other's. -/
def swapped (y : Nat → Int) (a b : Nat) : Nat → Int := fun j => if j = b then y a else if j = a then y b else y j
theorem Same.swap {n : Nat} {x y : Nat → Int} (h : Same n x y) {a b : Nat} (ha : a < n) (hb : b < n) : Same n x (swapped y a b) := by
  refine ⟨fun j hj => ?_, fun k hk => ?_⟩
  · obtain ⟨k, hk, e⟩ := h.there j hj
    by_cases e1 : k = a
    · exact ⟨b, hb, by rw [← e, e1]; exact if_pos rfl⟩
    · by_cases e2 : k = b
      · refine ⟨a, ha, ?_⟩
        rw [← e, e2]
        unfold swapped
        by_cases e3 : a = b
        · rw [if_pos e3, e3]
        · rw [if_neg e3, if_pos rfl]
      · exact ⟨k, hk, by rw [← e]; unfold swapped; rw [if_neg e2, if_neg e1]⟩
  · unfold swapped
    split
    · exact h.back a ha
    · split
      · exact h.back b hb
      · exact h.back k hk
/-- Up to m all rise (or stay), but for what lies at place j, which may be too small for its place. -/
def RiseBut (y : Nat → Int) (m j : Nat) : Prop := ∀ a b, a < b → b < m → b ≠ j → y a ≤ y b
def Rises (y : Nat → Int) (m : Nat) : Prop := ∀ a b, a < b → b < m → y a ≤ y b
theorem rise_one (y : Nat → Int) : Rises y 1 := fun a b h1 h2 => by omega
theorem Rises.but {y : Nat → Int} {m : Nat} (h : Rises y m) : RiseBut y (m + 1) m := fun a b h1 h2 h3 => h a b h1 (by omega)
theorem RiseBut.stop {y : Nat → Int} {m j : Nat} (h : RiseBut y m j) (hs : j = 0 ∨ y (j - 1) ≤ y j) : Rises y m := fun a b h1 h2 => by
  by_cases e : b = j
  · subst e
    have h3 := hs.resolve_left (by omega)
    by_cases e2 : a = b - 1
    · subst e2; exact h3
    · exact Int.le_trans (h a (b - 1) (by omega) (by omega) (by omega)) h3
  · exact h a b h1 h2 e
theorem RiseBut.swap {y : Nat → Int} {m j : Nat} (h : RiseBut y m j) (hj : 0 < j) (hl : y j < y (j - 1)) : RiseBut (swapped y j (j - 1)) m (j - 1) := fun a b h1 h2 h3 => by
  unfold swapped
  rw [if_neg h3]
  by_cases e1 : b = j
  · rw [if_pos e1]
    by_cases e2 : a = j - 1
    · rw [if_pos e2]; omega
    · rw [if_neg e2, if_neg (by omega)]
      exact h a (j - 1) (by omega) (by omega) (by omega)
  · rw [if_neg e1]
    by_cases e2 : a = j - 1
    · rw [if_pos e2]
      by_cases e3 : j < b
      · exact h j b e3 h2 e1
      · omega
    · rw [if_neg e2]
      by_cases e3 : a = j
      · rw [if_pos e3]
        exact h (j - 1) b (by omega) h2 e1
      · rw [if_neg e3]
        exact h a b h1 h2 e1

/-- What a sort leaves: nothing is answered, the same numbers rise, all else is as it was. -/
def Sorted (g n : Nat) (x : Nat → Int) (w : World) (e : Ending) (w' : World) : Prop :=
  e = .returned (.tuple #[]) ∧ ∃ y, Cells w' g n y ∧ Same n x y ∧ Rises y n ∧ Keeps (· = g) w w'

end Go.Proofs.YtoddmijfdmjfbaaGreat
/- Sb -/
set_option linter.unusedVariables false
namespace Go.Proofs.YtoddmijfdmjfbaaGreat
open Go.RowKit

/-- Of the first m those that are not as the one ahead of them. -/
def dd (x : Nat → Int) : Nat → List Int
  | 0 => []
  | m + 1 => if m = 0 ∨ x m ≠ x (m - 1) then dd x m ++ [x m] else dd x m
theorem dd_new {x : Nat → Int} {m : Nat} (h : m = 0 ∨ x m ≠ x (m - 1)) : dd x (m + 1) = dd x m ++ [x m] := if_pos h
theorem dd_old {x : Nat → Int} {m : Nat} (hm : 0 < m) (h : x m = x (m - 1)) : dd x (m + 1) = dd x m := if_neg (by omega)
theorem dd_le (x : Nat → Int) : ∀ m, (dd x m).length ≤ m
  | 0 => Nat.le_refl _
  | m + 1 => by
    have := dd_le x m
    unfold dd
    split
    · simp; omega
    · omega
/-- Where no two neighbours are alike all stay. -/
theorem dd_all {x : Nat → Int} : ∀ {m : Nat}, (∀ j, 0 < j → j < m → x j ≠ x (j - 1)) → (dd x m).length = m ∧ ∀ j, j < m → x j = (dd x m).getD j 0
  | 0, _ => ⟨rfl, fun j hj => by omega⟩
  | m + 1, h => by
    obtain ⟨h1, h2⟩ := dd_all (m := m) fun j h0 hj => h j h0 (by omega)
    have hn : m = 0 ∨ x m ≠ x (m - 1) := by
      by_cases e : m = 0
      · exact .inl e
      · exact .inr (h m (by omega) (by omega))
    rw [dd_new hn]
    refine ⟨by simp [h1], fun j hj => ?_⟩
    by_cases e : j = m
    · subst e
      simp [List.getD, h1]
    · rw [h2 j (by omega)]
      simp [List.getD, List.getElem?_append_left (show j < (dd x m).length by omega)]

theorem Cells.fill {g n : Nat} : ∀ (m o : Nat) {w : World} {y : Nat → Int}, Cells w g n y → ∃ z, Cells (w.setCells g o (List.replicate m (.int .i64 0))) g n z ∧ ∀ j, j < o → z j = y j
  | 0, o, w, y, h => ⟨y, h, fun _ _ => rfl⟩
  | m + 1, o, w, y, h => by
    obtain ⟨z, hz, e⟩ := Cells.fill m (o + 1) (h.set o 0)
    exact ⟨z, hz, fun j hj => (e j (by omega)).trans (if_neg (by omega))⟩
theorem Keeps.fill {S : Nat → Prop} {g : Nat} (hg : S g) {w : World} : ∀ (m o : Nat) {w' : World}, Keeps S w w' → Keeps S w (w'.setCells g o (List.replicate m (.int .i64 0)))
  | 0, o, w', h => h
  | m + 1, o, w', h => Keeps.fill hg m (o + 1) (h.set (p := ⟨g, o, none⟩) hg _)

/-- Of the first m places' numbers those that stay lie ahead; behind them all is as it was. -/
structure Moved (x y : Nat → Int) (n m k : Nat) : Prop where
  len : (dd x m).length = k
  lt : k < m
  low : ∀ j, j < k → y j = (dd x m).getD j 0
  high : ∀ j, k ≤ j → j < n → y j = x j
theorem Moved.old {x y : Nat → Int} {n m k : Nat} (h : Moved x y n m k) (hm : 0 < m) (e : x m = x (m - 1)) : Moved x y n (m + 1) k := by
  obtain ⟨h1, h2, h3, h4⟩ := h
  exact ⟨by rw [dd_old hm e]; exact h1, by omega, by rw [dd_old hm e]; exact h3, h4⟩
theorem Moved.new {x y : Nat → Int} {n m k : Nat} (h : Moved x y n m k) (e : x m ≠ x (m - 1)) : Moved x (fun j => if j = k then x m else y j) n (m + 1) (k + 1) := by
  obtain ⟨h1, h2, h3, h4⟩ := h
  refine ⟨by rw [dd_new (.inr e)]; simp [h1], by omega, fun j hj => ?_, fun j h5 h6 => ?_⟩
  · rw [dd_new (.inr e)]
    by_cases e2 : j = k
    · rw [if_pos e2, e2]
      simp [List.getD, ← h1]
    · rw [if_neg e2, h3 j (by omega)]
      simp [List.getD, List.getElem?_append_left (show j < (dd x m).length by omega)]
  · rw [if_neg (by omega)]
    exact h4 j (by omega) h6

/-- What Compact leaves. -/
def Compacted (g n : Nat) (x : Nat → Int) (w : World) (e : Ending) (w' : World) : Prop :=
  e = .returned (.slice (some ⟨g, 0, none⟩) (dd x n).length n) ∧ ∃ y, Cells w' g n y ∧ (∀ j, j < (dd x n).length → y j = (dd x n).getD j 0) ∧ Keeps (· = g) w w'
theorem Compacted.same {g n : Nat} {x : Nat → Int} {w w' : World} (h : ∀ j, 0 < j → j < n → x j ≠ x (j - 1)) (hX : Cells w' g n x) (hK : Keeps (· = g) w w') : Compacted g n x w (.returned (.slice (some ⟨g, 0, none⟩) n n)) w' := by
  obtain ⟨h1, h2⟩ := dd_all h
  exact ⟨by rw [h1], x, hX, by rw [h1]; exact h2, hK⟩

end Go.Proofs.YtoddmijfdmjfbaaGreat
/- Sc -/
set_option linter.unusedVariables false
namespace Go.Proofs.YtoddmijfdmjfbaaGreat
open Go.RowKit

set_option maxRecDepth 100000 in
set_option maxHeartbeats 2000000 in
theorem specPodsOf_any (v : Value) (d : PlanD) (wanted : Int) (w : World) (h : IsPlan w w.heap.size v d) (hn : d.n0 ≤ 1048576) :
    Calls Tryz.prog 98 #[v, .int .i64 wanted] w (Listed w (found d d.n0 (fun i => d.x0 (i * 4 + 1)) wanted)) := by
  have P := Lib.hid h
  obtain ⟨⟨A0, A1, A2, A3, c0, c1, c2, c3, rfl, s0, s1, s2, s3⟩, b0, b1, b2, b3⟩ := h
  have S := Lib.hid s0
  have HN := Lib.hid hn
  have hn' : d.n0 ≤ 2 ^ 63 - 1 := by omega
  clear s0 s1 s2 s3 b0 b1 b2 b3 hn
  obtain ⟨i0, hi, hz0, hz1, hz2⟩ := info_parts info_i64
  have HI := Lib.hid hi
  have HZ0 := Lib.hid hz0
  have HZ1 := Lib.hid hz1
  have HZ2 := Lib.hid hz2
  clear hi hz0 hz1 hz2
  go_enter Tryz.func98, Tryz.ntmps98
  go_wp2
  have X1 := (Own.box w (planC A0 A1 A2 A3 d.n0 c0 d.n1 c1 d.n2 c2 d.n3 c3 d.l d.p d.t) 29).alloc (.cells #[] 2)
  have O1 : ((w.alloc (.cells (planC A0 A1 A2 A3 d.n0 c0 d.n1 c1 d.n2 c2 d.n3 c3 d.l d.p d.t) 29)).alloc (.cells #[] 2)).ownsRow (w.heap.size + 1) 2 1 (.slice (some ⟨w.heap.size + 1, 0, none⟩) 0 0) 0 [] := by
    have := World.ownsRow_made (base := w.heap.size + 1) (e := 2) (size := 1) (w.alloc (.cells (planC A0 A1 A2 A3 d.n0 c0 d.n1 c1 d.n2 c2 d.n3 c3 d.l d.p d.t) 29)) #[] 0 (by simp) (Nat.zero_le _) rfl
    simpa using this
  go_loopw [5, 6] (fun v i wr => ∃ k : Nat, k ≤ d.n0 ∧ i = .int .i64 k ∧ (k = 0 ∨ planOkB d = true) ∧ wr.ownsRow (w.heap.size + 1) 2 1 v (hits k (fun i => d.x0 (i * 4 + 1)) wanted).length ((hits k (fun i => d.x0 (i * 4 + 1)) wanted).map (Value.int .i64)) ∧
    Own w wr w.heap.size (planC A0 A1 A2 A3 d.n0 c0 d.n1 c1 d.n2 c2 d.n3 c3 d.l d.p d.t)) (fun _ i _ => d.n0 - (intOf i).toNat)
  case atStart => exact ⟨0, Nat.zero_le _, rfl, .inl rfl, O1, X1⟩
  case round =>
    clear O1 X1
    obtain ⟨k, hk, rfl, hor, O, X⟩ := hrel
    have HR := Lib.hid hor
    have HO := Lib.hid O
    clear hor O
    have hC := X.C
    have hz := X.z
    by_cases hlt : k < d.n0
    · cases hq : planOkB d
      · have HQ := Lib.hid hq
        go_wp2_with (go_at_call 22; refine (spec_planOk_any _ d _ ((P.out.below X.K (Nat.le_refl _)).more X.K.size)).mono ?_; rintro e w2 ⟨rfl, hb2⟩; have X2 := X.step hb2)
        go_ret
        refine ⟨_, rfl, ?_, X2.K⟩
        have hk0 : k = 0 := HR.out.resolve_right (by rw [HQ.out]; decide)
        rw [found_no HQ.out]
        have := ownsRow_base (ownsRow_below HO.out hb2) (Nat.le_succ _)
        rw [hk0] at this
        exact this
      · have HQ := Lib.hid hq
        have hle := hits_le k (fun i => d.x0 (i * 4 + 1)) wanted
        have h63 : (hits k (fun i => d.x0 (i * 4 + 1)) wanted).length + 1 ≤ maxLen := by have := HN.out; unfold maxLen; omega
        have hby : ((hits k (fun i => d.x0 (i * 4 + 1)) wanted).length + 1) * 8 ≤ 140737488355328 := by have := HN.out; omega
        have H63 := Lib.hid h63
        have HBY := Lib.hid hby
        clear h63 hby hle
        obtain ⟨b, off, rfl, hb, q0, q1, q2, q3⟩ := (S.out.own X).cell4 hlt
        cases hv : (d.x0 (k * 4 + 1) == wanted)
        · have HV := Lib.hid (hits_no (f := fun i => d.x0 (i * 4 + 1)) hv)
          go_wp2_with (go_at_call 22; refine (spec_planOk_any _ d _ ((P.out.below X.K (Nat.le_refl _)).more X.K.size)).mono ?_; rintro e w2 ⟨rfl, hb2⟩; have X2 := X.step hb2; have hC2 := X2.C; have hD2 := (bcell hb2).1)
          refine ⟨⟨k + 1, by omega, by go_num, .inr (by first | exact HQ.out | trivial), by rw [HV.out]; exact ownsRow_below HO.out hb2, X2⟩, by simp [intOf]; omega⟩
        · have HV := Lib.hid (hits_yes (f := fun i => d.x0 (i * 4 + 1)) hv)
          go_wp2_with (first
            | (go_at_call 22; refine (spec_planOk_any _ d _ ((P.out.below X.K (Nat.le_refl _)).more X.K.size)).mono ?_; rintro e w2 ⟨rfl, hb2⟩; have X2 := X.step hb2; have hC2 := X2.C; have hD2 := (bcell hb2).1)
            | (at_builtin; refine wpList_append_own _ rfl _ _ 25 rfl (w.heap.size + 1) 2 i0 (.int .i64 0) 1 8 Tryz.underlying25 HI.out HZ0.out HZ1.out HZ2.out rfl (by decide) _ _ _ rfl ((ownsRow_below HO.out hb2).alloc _) ⟨w2.heap.size, 0, none⟩ 1 1 [.int .i64 k] rfl rfl (cell_one_new _ _ _) (fun x hx => by simp at hx; subst hx; rfl) H63.out HBY.out (by have := X2.z; simp; omega) ?_; intro v' w4 hown' hgrow hnil))
          have X3 := X2.alloc (.cells #[.int .i64 k] 2)
          have OB := (ownsRow_below HO.out hb2)
          refine ⟨⟨k + 1, by omega, by go_num, .inr (by first | exact HQ.out | trivial), ?_, ?_⟩, by simp [intOf]; omega⟩
          · rw [HV.out]
            simpa using hown'
          · exact X3.grown hgrow fun g hg => by have := (OB.lt g hg).1; omega
    · obtain rfl : k = d.n0 := by omega
      go_wp2
      go_ret
      refine ⟨_, rfl, ?_, X.K⟩
      have := ownsRow_base HO.out (Nat.le_succ _)
      rcases HR.out with h0 | h1
      · cases hq : planOkB d
        · rw [found_no hq]
          rw [h0] at this
          exact this
        · rw [found_yes hq]; exact this
      · rw [found_yes h1]; exact this

theorem specPods_any (v : Value) (d : PlanD) (b : Int) (w : World) (h : IsPlan w w.heap.size v d) (hn : d.n0 ≤ 1048576) :
    Calls Tryz.prog 98 #[v, .int .i64 b] w (Listed w (podsL d b)) := specPodsOf_any v d b w h hn
end Go.Proofs.YtoddmijfdmjfbaaGreat
/- Sd -/
set_option linter.unusedVariables false
namespace Go.Proofs.YtoddmijfdmjfbaaGreat
open Go.RowKit

theorem rise_unique : ∀ {L M : List Int}, L.Pairwise (· < ·) → M.Pairwise (· < ·) → (∀ x, x ∈ L ↔ x ∈ M) → L = M
  | [], [], _, _, _ => rfl
  | [], b :: M, _, _, h => by have := (h b).2 (by simp); cases this
  | a :: L, [], _, _, h => by have := (h a).1 (by simp); cases this
  | a :: L, b :: M, hL, hM, h => by
    have hL' := List.pairwise_cons.1 hL
    have hM' := List.pairwise_cons.1 hM
    have hab : a = b := by
      have h1 := (h a).1 (by simp)
      have h2 := (h b).2 (by simp)
      rcases List.mem_cons.1 h1 with e | e
      · exact e
      · rcases List.mem_cons.1 h2 with e2 | e2
        · exact e2.symm
        · have := hM'.1 a e
          have := hL'.1 b e2
          omega
    subst hab
    congr 1
    refine rise_unique hL'.2 hM'.2 fun x => ⟨fun hx => ?_, fun hx => ?_⟩
    · have := hL'.1 x hx
      rcases List.mem_cons.1 ((h x).1 (by simp [hx])) with e | e
      · omega
      · exact e
    · have := hM'.1 x hx
      rcases List.mem_cons.1 ((h x).2 (by simp [hx])) with e | e
      · omega
      · exact e

theorem dd_mem {x : Nat → Int} {v : Int} : ∀ {m : Nat}, v ∈ dd x m ↔ ∃ j, j < m ∧ x j = v
  | 0 => by simp [dd]
  | m + 1 => by
    by_cases h : m = 0 ∨ x m ≠ x (m - 1)
    · rw [dd_new h, List.mem_append, dd_mem (m := m), List.mem_singleton]
      refine ⟨?_, fun ⟨j, hj, e⟩ => ?_⟩
      · rintro (⟨j, hj, e⟩ | e)
        · exact ⟨j, by omega, e⟩
        · exact ⟨m, by omega, e.symm⟩
      · by_cases e2 : j = m
        · subst e2; exact .inr e.symm
        · exact .inl ⟨j, by omega, e⟩
    · rw [dd_old (by omega) (by omega), dd_mem (m := m)]
      refine ⟨fun ⟨j, hj, e⟩ => ⟨j, by omega, e⟩, fun ⟨j, hj, e⟩ => ?_⟩
      by_cases e2 : j = m
      · subst e2
        exact ⟨j - 1, by omega, by rw [← e]; omega⟩
      · exact ⟨j, by omega, e⟩
theorem dd_rise {x : Nat → Int} {n : Nat} (h : Rises x n) : ∀ {m : Nat}, m ≤ n → (dd x m).Pairwise (· < ·)
  | 0, _ => List.Pairwise.nil
  | m + 1, hm => by
    have ih := dd_rise h (m := m) (by omega)
    by_cases hn : m = 0 ∨ x m ≠ x (m - 1)
    · rw [dd_new hn, List.pairwise_append]
      refine ⟨ih, List.pairwise_singleton _ _, fun a ha b hb => ?_⟩
      obtain rfl := List.mem_singleton.1 hb
      obtain ⟨j, hj, rfl⟩ := dd_mem.1 ha
      have h1 := h (m - 1) m (by omega) (by omega)
      by_cases e : j = m - 1
      · rw [e]; omega
      · have h2 := h j (m - 1) (by omega) (by omega)
        omega
    · rw [dd_old (by omega) (by omega)]
      exact ih

theorem picks_mem_iff {n : Nat} {p : Nat → Bool} {x : Int} : x ∈ picks n p ↔ ∃ i : Nat, i < n ∧ x = i ∧ p i = true := by
  refine ⟨picks_mem, ?_⟩
  rintro ⟨i, h1, rfl, h2⟩
  simp only [picks, List.mem_map, List.mem_filter, List.mem_range]
  exact ⟨i, ⟨h1, h2⟩, rfl⟩
/-- Numbers that rise, made of the pods' bands, without repeats: the chapter's list. -/
theorem rising_bands {d : PlanD} (h : planOkB d = true) {y : Nat → Int} (hS : Same d.n0 (fun i => d.x0 (i * 4 + 1)) y) (hR : Rises y d.n0) : dd y d.n0 = bandsL d := by
  refine rise_unique (dd_rise hR (Nat.le_refl _)) (bandsL_rise d) fun v => ?_
  rw [dd_mem]
  unfold bandsL
  rw [picks_mem_iff]
  constructor
  · rintro ⟨k, hk, rfl⟩
    obtain ⟨i, hi, e⟩ := hS.back k hk
    have hb := planOk_band h hi
    have e : y k = d.x0 (i * 4 + 1) := e
    rw [e]
    refine ⟨(d.x0 (i * 4 + 1)).toNat, by omega, by omega, ?_⟩
    simp only [hasB, decide_eq_true_eq]
    unfold podsL
    rw [found_yes h]
    refine List.length_pos_of_mem (a := (i : Int)) ?_
    rw [hits_picks, picks_mem_iff]
    exact ⟨i, hi, rfl, by simp; omega⟩
  · rintro ⟨b, hb, rfl, hp⟩
    simp only [hasB, decide_eq_true_eq] at hp
    obtain ⟨v, hv⟩ := List.exists_mem_of_length_pos hp
    obtain ⟨i, hi, _, e⟩ := podsL_mem hv
    obtain ⟨k, hk, ek⟩ := hS.there i hi
    exact ⟨k, hk, ek.trans e⟩
theorem bandsL_no {d : PlanD} (h : planOkB d = false) : bandsL d = [] := by
  refine List.eq_nil_iff_forall_not_mem.2 fun x hx => ?_
  obtain ⟨i, _, _, hp⟩ := picks_mem hx
  simp only [hasB, decide_eq_true_eq] at hp
  unfold podsL at hp
  rw [found_no h] at hp
  exact absurd hp (by decide)

theorem Cells.owns {w : World} {g n : Nat} {y : Nat → Int} {L : List Int} (h : Cells w g n y) (hn : n ≤ 12) (hl : L.length ≤ n) (hL : ∀ j, j < L.length → y j = L.getD j 0) :
    w.ownsRow g 2 1 (.slice (some ⟨g, 0, none⟩) L.length n) L.length (L.map (Value.int .i64)) := by
  obtain ⟨cur, hh, hs, hc⟩ := h
  refine ⟨by simp, .inr ⟨g, n, cur, rfl, Nat.le_refl _, hh, hl, by unfold maxLen; omega, by omega, ?_⟩⟩
  rw [Nat.mul_one]
  refine List.ext_getElem? fun j => ?_
  by_cases hj : j < L.length
  · rw [List.getElem?_take_of_lt hj, Array.getElem?_toList, hc j (by omega), hL j hj]
    simp [List.getD, hj]
  · rw [List.getElem?_take_eq_none (by omega), List.getElem?_eq_none (by simp; omega)]

end Go.Proofs.YtoddmijfdmjfbaaGreat
/- Se -/
set_option linter.unusedVariables false
namespace Go.Proofs.YtoddmijfdmjfbaaGreat
open Go.RowKit Go.Sort

/-- Block g, of n whole numbers, is being filled: the first k are as f tells. -/
structure Filling (wr : World) (g n k : Nat) (f : Nat → Int) : Prop where
  it : ∃ cur, wr.heap[g]? = some (.cells cur 2 (0, 0)) ∧ cur.size = n ∧ ∀ j, j < k → cur[j]? = some (.int .i64 (f j))
theorem Filling.lt {wr : World} {g n k : Nat} {f : Nat → Int} (h : Filling wr g n k f) : g < wr.heap.size := by
  obtain ⟨cur, hh, _⟩ := h
  exact (Array.getElem?_eq_some_iff.1 hh).1
theorem Filling.below {wr w' : World} {g n k : Nat} {f : Nat → Int} (h : Filling wr g n k f) (hb : Below wr.heap.size wr w') : Filling w' g n k f := by
  have hl := h.lt
  obtain ⟨cur, hh, r⟩ := h
  exact ⟨cur, (hb.block g hl).trans hh, r⟩
theorem Filling.at_ {wr : World} {g n k i : Nat} {f : Nat → Int} (h : Filling wr g n k f) (hi : i < n) : ∃ v, wr.cell? ⟨g, i, none⟩ = some v ∧ wr.frozen? ⟨g, i, none⟩ = false := by
  obtain ⟨cur, hh, hs, _⟩ := h
  exact ⟨cur[i]'(by omega), (cell_of_row _ _ _ _ _ _ hh).trans (Array.getElem?_eq_getElem (by omega)), frozen_of_row _ _ _ _ _ hh⟩
theorem Filling.set {wr : World} {g n k : Nat} {f : Nat → Int} (h : Filling wr g n k f) (hk : k < n) : Filling (wr.setCell ⟨g, k, none⟩ (.int .i64 (f k))) g n (k + 1) f := by
  obtain ⟨cur, hh, hs, hc⟩ := h
  refine ⟨cur.setIfInBounds k (.int .i64 (f k)), ?_, by simp [hs], fun j hj => ?_⟩
  · rw [setCell_eq]
    simp [mapBlock, Array.getElem?_modify, hh, onCells]
  · by_cases e : j = k
    · subst e
      simp [hs, hk]
    · rw [Array.getElem?_setIfInBounds_ne (fun he => e he.symm)]
      exact hc j (by omega)
theorem Filling.full {wr : World} {g n : Nat} {f : Nat → Int} (h : Filling wr g n n f) : Cells wr g n f := ⟨h.it⟩
theorem made_emptyI (w : World) {B : Nat} (hB : B ≤ w.heap.size) : (w.alloc (.cells #[] 2)).ownsRow B 2 1 (.slice (some ⟨w.heap.size, 0, none⟩) 0 0) 0 [] := by
  have := World.ownsRow_made (base := B) (e := 2) (size := 1) w #[] 0 hB (Nat.zero_le _) rfl
  simpa using this
theorem filling_new {w : World} {B g n : Nat} {f : Nat → Int} {xs : List Value} (h : w.ownsRow B 2 1 (.slice (some ⟨g, 0, none⟩) n n) n xs) : B ≤ g ∧ Filling w g n 0 f := by
  rcases h.2 with ⟨h1, _⟩ | ⟨g', cap, cur, h1, hb, h2, h3, h4, h5, h6⟩
  · cases h1
  · injection h1 with h1 _ h7
    injection h1 with h1
    injection h1 with h1 _ _
    subst h1 h7
    exact ⟨hb, cur, h2, by omega, fun j hj => absurd hj (by omega)⟩

set_option maxRecDepth 100000 in
set_option maxHeartbeats 2000000 in
theorem specBands_any (v : Value) (d : PlanD) (w : World) (h : IsPlan w w.heap.size v d) (hn : d.n0 ≤ 1048576) :
    Calls Tryz.prog 104 #[v] w (Listed w (bandsL d)) := by
  have P := Lib.hid h
  have HN := Lib.hid hn
  obtain ⟨⟨A0, A1, A2, A3, c0, c1, c2, c3, rfl, s0, s1, s2, s3⟩, b0, b1, b2, b3⟩ := h
  clear s0 s1 s2 s3 b0 b1 b2 b3 hn
  obtain ⟨i0, hi, hz0, hz1, hz2⟩ := info_parts info_i64
  have HI := Lib.hid hi
  have HZ0 := Lib.hid hz0
  have HZ1 := Lib.hid hz1
  have HZ2 := Lib.hid hz2
  clear hi hz0 hz1 hz2
  go_enter Tryz.func104, Tryz.ntmps104
  go_wp2
  have X1 := (Own.box w (planC A0 A1 A2 A3 d.n0 c0 d.n1 c1 d.n2 c2 d.n3 c3 d.l d.p d.t) 29).alloc (.cells #[] 2)
  have O1 := made_emptyI (w.alloc (.cells (planC A0 A1 A2 A3 d.n0 c0 d.n1 c1 d.n2 c2 d.n3 c3 d.l d.p d.t) 29)) (B := w.heap.size + 1) (by simp)
  rw [heap_size_alloc_] at O1
  go_loopw [3, 4] (fun v i wr => ∃ k : Nat, k ≤ 6 ∧ i = .int .i64 k ∧ wr.ownsRow (w.heap.size + 1) 2 1 v (picks k (hasB d)).length ((picks k (hasB d)).map (Value.int .i64)) ∧
    Own w wr w.heap.size (planC A0 A1 A2 A3 d.n0 c0 d.n1 c1 d.n2 c2 d.n3 c3 d.l d.p d.t)) (fun _ i _ => 6 - (intOf i).toNat)
  case atStart => exact ⟨0, Nat.zero_le _, rfl, O1, X1⟩
  case round =>
    clear O1 X1
    obtain ⟨k, hk, rfl, O, X⟩ := hrel
    have HO := Lib.hid O
    clear O
    have hC := X.C
    have hz := X.z
    by_cases hlt : k < 6
    · have hle := picks_le k (hasB d)
      have h63 : (picks k (hasB d)).length + 1 ≤ maxLen := by unfold maxLen; omega
      have hby : ((picks k (hasB d)).length + 1) * 8 ≤ 140737488355328 := by omega
      have H63 := Lib.hid h63
      have HBY := Lib.hid hby
      clear h63 hby hle
      have hp := Lib.hid (specPods_any _ d k _ ((P.out.below X.K (Nat.le_refl _)).more X.K.size) HN.out)
      have hl0 := podsL_le d k
      have hl1 := HN.out
      have hl : (podsL d k).length ≤ 1048576 := by omega
      clear hl0 hl1
      cases hv : hasB d k
      · have HV := Lib.hid (picks_no hv)
        simp only [hasB, decide_eq_false_iff_not] at hv
        go_wp2_with (go_at_call 98; refine hp.out.mono ?_; rintro e w2 ⟨v', rfl, O2, hb2⟩; obtain ⟨A', c', g', rfl, -⟩ := open_list O2; have X2 := X.step hb2)
        refine ⟨⟨k + 1, by omega, by go_num, by rw [HV.out]; exact ownsRow_below HO.out hb2, X2⟩, by simp [intOf]; omega⟩
      · have HV := Lib.hid (picks_yes hv)
        simp only [hasB, decide_eq_true_eq] at hv
        go_wp2_with (first
          | (go_at_call 98; refine hp.out.mono ?_; rintro e w2 ⟨v', rfl, O2, hb2⟩; obtain ⟨A', c', g', rfl, -⟩ := open_list O2; have X2 := X.step hb2; clear O2)
          | (at_builtin; refine wpList_append_own _ rfl _ _ 25 rfl (w.heap.size + 1) 2 i0 (.int .i64 0) 1 8 Tryz.underlying25 HI.out HZ0.out HZ1.out HZ2.out rfl (by decide) _ _ _ rfl ((ownsRow_below HO.out hb2).alloc _) ⟨w2.heap.size, 0, none⟩ 1 1 [.int .i64 k] rfl rfl (cell_one_new _ _ _) (fun x hx => by simp at hx; subst hx; rfl) H63.out HBY.out (by have := X2.z; simp; omega) ?_; intro v' w4 hown' hgrow hnil))
        have X3 := X2.alloc (.cells #[.int .i64 k] 2)
        have OB := (ownsRow_below HO.out hb2)
        refine ⟨⟨k + 1, by omega, by go_num, ?_, ?_⟩, by simp [intOf]; omega⟩
        · rw [HV.out]
          simpa using hown'
        · exact X3.grown hgrow fun g hg => by have := (OB.lt g hg).1; omega
    · obtain rfl : k = 6 := by omega
      go_wp2
      go_ret
      exact ⟨_, rfl, ownsRow_base HO.out (Nat.le_succ _), X.K⟩
end Go.Proofs.YtoddmijfdmjfbaaGreat
/- Sf -/
set_option linter.unusedVariables false
namespace Go.Proofs.YtoddmijfdmjfbaaGreat
open Go.RowKit

theorem step_le {L : List Int} {b : Int} {k : Nat} (h : ∀ j, j < k → L.getD j 0 ≤ b) (hk : L.getD k 0 ≤ b) : ∀ j, j < k + 1 → L.getD j 0 ≤ b := fun j hj => by
  by_cases e : j = k
  · rw [e]; exact hk
  · exact h j (by omega)
theorem firstOver_hit {L : List Int} {b : Int} {k : Nat} (hk : k < L.length) (h : ∀ j, j < k → L.getD j 0 ≤ b) (hb : b < L.getD k 0) : firstOver L b = L.getD k 0 := by
  rw [getD_at hk] at hb ⊢
  exact firstOver_at hk (fun j hj => by have := h j hj; rwa [getD_at (by omega)] at this) hb
theorem firstOver_miss {L : List Int} {b : Int} (h : ∀ j, j < L.length → L.getD j 0 ≤ b) : firstOver L b = -1 := by
  refine firstOver_none fun x hx => ?_
  obtain ⟨j, hj, rfl⟩ := List.getElem_of_mem hx
  have := h j hj
  rwa [getD_at hj] at this

set_option maxRecDepth 100000 in
set_option maxHeartbeats 2000000 in
theorem specNext_any (v : Value) (d : PlanD) (b : Int) (w : World) (h : IsPlan w w.heap.size v d) (hn : d.n0 ≤ 1048576) :
    Calls Tryz.prog 94 #[v, .int .i64 b] w fun e w' => e = .returned (.int .i64 (nextL d b)) ∧ Below w.heap.size w w' := by
  have P := Lib.hid h
  have HN := Lib.hid hn
  obtain ⟨⟨A0, A1, A2, A3, c0, c1, c2, c3, rfl, s0, s1, s2, s3⟩, b0, b1, b2, b3⟩ := h
  clear s0 s1 s2 s3 b0 b1 b2 b3 hn
  go_enter Tryz.func94, Tryz.ntmps94
  go_wp2_with fail
  have X1 := Own.box w (planC A0 A1 A2 A3 d.n0 c0 d.n1 c1 d.n2 c2 d.n3 c3 d.l d.p d.t) 29
  refine (specBands_any _ d _ ((P.out.below X1.K (Nat.le_refl _)).more X1.K.size) HN.out).mono ?_
  rintro e w2 ⟨v', rfl, O2, hb⟩
  have K2 := Lib.hid (X1.step hb).K
  obtain ⟨A, c, g, rfl, hA, hg, hgl, R⟩ := open_list O2
  have HA := Lib.hid hA
  have hle := bandsL_le d
  have HF := Lib.hid (show ∀ x, firstOver (bandsL d) x = nextL d x from fun _ => rfl)
  clear X1 hb O2 hA hg hgl
  generalize bandsL d = L at *
  have HR := Lib.hid R
  clear R
  go_wp2
  go_loopw [6] (fun i wr => ∃ k : Nat, k ≤ L.length ∧ i = .int .i64 k ∧ wr = w2 ∧ ∀ j, j < k → L.getD j 0 ≤ b) (fun i _ => L.length - (intOf i).toNat)
  case atStart => exact ⟨0, Nat.zero_le _, rfl, rfl, fun j hj => absurd hj (by omega)⟩
  case round =>
    obtain ⟨k, hk, rfl, rfl, hall⟩ := hrel
    have HL := Lib.hid hall
    clear hall
    by_cases hlt : k < L.length
    · obtain rfl := HA.out (by omega)
      obtain ⟨t0, f0⟩ : wr.cell? ⟨g, k, none⟩ = some (.int .i64 (L.getD k 0)) ∧ wr.frozen? ⟨g, k, none⟩ = false := HR.out k hlt
      generalize hx : L.getD k 0 = x at t0
      have HX := Lib.hid hx
      clear hx
      by_cases hb : b < x
      · go_wp2
        go_ret
        exact ⟨ret_int (by rw [← HF.out, firstOver_hit hlt HL.out (by rw [HX.out]; exact hb), HX.out]), K2.out⟩
      · go_wp2
        exact ⟨⟨k + 1, by omega, by go_num, by trivial, step_le HL.out (by rw [HX.out]; omega)⟩, by simp [intOf]; omega⟩
    · obtain rfl : k = L.length := by omega
      go_wp2
      go_ret
      exact ⟨ret_int (by rw [← HF.out, firstOver_miss HL.out]), K2.out⟩
end Go.Proofs.YtoddmijfdmjfbaaGreat
/- Da -/
set_option linter.unusedVariables false
namespace Go.Proofs.YtoddmijfdmjfbaaGreat
open Go.RowKit

/-- Block g holds just cs, all writable. -/
structure Blk (w : World) (g : Nat) (cs : Array Value) : Prop where
  z : g < w.heap.size
  C : ∀ o, w.cell? ⟨g, o, none⟩ = cs[o]?
  F : ∀ o, w.frozen? ⟨g, o, none⟩ = false
theorem Blk.new (w : World) (cs : Array Value) (t : TypeId) : Blk (w.alloc (.cells cs t)) w.heap.size cs := ⟨by simp, cell_new w cs t, fun o => frozen_of_row _ _ _ _ _ (heap_alloc_new w _)⟩
theorem Blk.keeps {S : Nat → Prop} {w w' : World} {g : Nat} {cs : Array Value} (h : Blk w g cs) (k : Keeps S w w') (hn : ¬ S g) : Blk w' g cs :=
  ⟨Nat.lt_of_lt_of_le h.z k.size, fun o => (k.cell (p := ⟨g, o, none⟩) h.z hn).trans (h.C o), fun o => (k.frozen (p := ⟨g, o, none⟩) h.z hn).trans (h.F o)⟩
theorem Blk.below {w w' : World} {g : Nat} {cs : Array Value} (h : Blk w g cs) (hb : Below w.heap.size w w') : Blk w' g cs := h.keeps (S := fun _ => False) (Keeps.of_below hb) id
theorem Blk.alloc {w : World} {g : Nat} {cs : Array Value} (h : Blk w g cs) (o : Obj) : Blk (w.alloc o) g cs := h.below ((Below.refl _ _).alloc (Nat.le_refl _) _)
theorem Blk.set {w : World} {g : Nat} {cs : Array Value} (h : Blk w g cs) {i : Nat} (hi : i < cs.size) (v : Value) : Blk (w.setCell ⟨g, i, none⟩ v) g (cs.setIfInBounds i v) :=
  ⟨by simpa [World.setCell] using h.z, fun o => by
    by_cases e : o = i
    · subst e
      rw [World.cell?_setCell_same _ _ _ ((h.C o).trans (Array.getElem?_eq_getElem hi))]
      simp [hi]
    · rw [World.cell?_setCell_other _ _ _ _ (fun he => e (by injection he with _ h2 _; exact h2.symm)), h.C o, Array.getElem?_setIfInBounds_ne (fun he => e he.symm)],
   fun o => by rw [World.frozen?_setCell]; exact h.F o⟩

theorem Keeps.far {S : Nat → Prop} {w w' : World} (h : Keeps S w w') {p : Addr} (hp : w.heap.size ≤ p.block) (v : Value) : Keeps S w (w'.setCell p v) :=
  ⟨h.os, h.tape, h.output, by simpa [World.setCell] using h.size, fun b hb hn => (Below.heap_setCell _ _ _ _ (fun e => by omega)).trans (h.block b hb hn)⟩
theorem Keeps.alloc {S : Nat → Prop} {w w' : World} (h : Keeps S w w') (o : Obj) : Keeps S w (w'.alloc o) := h.trans (Keeps.of_below ((Below.refl _ _).alloc (Nat.le_refl _) o))
theorem Cur.far {T : TypeId} {k : IntKind} {w : World} {g : Nat} (h : Cur T k w g) {p : Addr} (hp : g < p.block) (v : Value) : Cur T k (w.setCell p v) g :=
  h.keeps (S := (· = p.block)) ((Keeps.refl (· = p.block) w).set (p := p) rfl v) (fun b hb e => by have e : b = p.block := e; omega)
theorem Cur.alloc {T : TypeId} {k : IntKind} {w : World} {g : Nat} (h : Cur T k w g) (o : Obj) : Cur T k (w.alloc o) g := h.below ((Below.refl _ _).alloc (Nat.le_refl _) o)

/-- Behind a draw of a record, whichever. -/
def DrawnRec (g : Nat) (w : World) (e : Ending) (w' : World) : Prop :=
  ∃ r : RecD, e = .returned (recV r) ∧ Cur 74 .i64 w' g ∧ Keeps (· = g) w w'
def pick3 (a b c : Int) (x : Nat) : Int := if x = 0 then a else if x = 1 then b else c
theorem pick3_get (a b c : Int) (x : Nat) (hx : x < ([.int .i64 a, .int .i64 b, .int .i64 c] : List Value).length) : ([.int .i64 a, .int .i64 b, .int .i64 c] : List Value)[x]'hx = .int .i64 (pick3 a b c x) := by
  have hx' : x < 3 := hx
  rcases (by omega : x = 0 ∨ x = 1 ∨ x = 2) with rfl | rfl | rfl <;> rfl

end Go.Proofs.YtoddmijfdmjfbaaGreat
