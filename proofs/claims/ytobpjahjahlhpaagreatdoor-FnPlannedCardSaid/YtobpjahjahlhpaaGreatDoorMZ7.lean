/-
  slices.Insert of one number into a list of the call's own.
-/
import Derived.Test.YtobpjahjahlhpaaGreatDoorMZ6
import Derived.Deep.AppendLies
import Derived.Laws.AppendOwnNone
import Derived.Test.YtobpjahjahlhpaaGreatDoorMZ0
import Derived.Sort.Row
import Derived.RegionTactic
import Derived.BigRegion
import Derived.Lib.SliceRun
import Derived.Test.YtobpjahjahlhpaaGreatDoorMZ1
import Derived.Test.YtobpjahjahlhpaaGreatDoorMZ2
import Derived.Deep.RegionHeld3
import Derived.Deep.RegionLaw
import Derived.Laws.Tables
import Derived.Laws.BytesArg
import Derived.BigQuiet
import Derived.Deep.QuietTactic
import Derived.Shelf.SlicesG.SearchI
import Derived.Shelf.SlicesG.Delete
import Derived.Test.YtobpjahjahlhpaaGreatDoorMZ3
import Derived.Test.YtobpjahjahlhpaaGreatDoorMZ4
import Derived.Shelf.Spec.SlicesInsertGrow
import Derived.Lib.AppendZerosOnto
import Derived.Lib.Overlaps
/- Ek -/
set_option linter.unusedVariables false
namespace Go.Proofs.YtobpjahjahlhpaaGreatDoor
open Go.RowKit

theorem OB.two {w : World} {B : Nat} (hB : B ≤ w.heap.size) {x y : Nat} (hx : x < 256) (hy : y < 256) : OB (w.alloc (.cells #[.int .u8 x, .int .u8 y] 5)) B (.slice (some ⟨w.heap.size, 0, none⟩) 2 2) [x, y] := by
  refine ⟨⟨rfl, .inr ⟨w.heap.size, 2, _, rfl, hB, heap_alloc_new w _, Nat.le_refl _, by unfold maxLen; decide, rfl, rfl⟩⟩, fun z hz => ?_⟩
  rcases List.mem_cons.1 hz with rfl | hz
  · exact hx
  · obtain rfl : z = y := by simpa using hz
    exact hy
set_option maxHeartbeats 400000 in
theorem l4Two_any (n : Nat) (w : World) (hn : n < 65536) :
    Calls Tryz.prog 185 #[.int .i64 n] w fun e w' => ∃ v, e = .returned v ∧ OB w' w.heap.size v (twoN n) ∧ Below w.heap.size w w' := by
  go_enter Tryz.func185, Tryz.ntmps185
  go_wp2
  go_ret
  refine ⟨_, rfl, ?_, (Below.refl _ _).alloc (Nat.le_refl _) _⟩
  have := OB.two (w := w) (Nat.le_refl _) (x := n % 256) (y := n / 256) (by omega) (by omega)
  first
    | exact this
    | (simpa [twoN] using this)

/-- What Framed answers. -/
def framedD (l : List RecD) : List Nat := if writeB l then frameN (wroteN l) else []
theorem framedD_yes {l : List RecD} (h : writeB l = true) : framedD l = frameN (wroteN l) := if_pos h
theorem framedD_no {l : List RecD} (h : writeB l = false) : framedD l = [] := if_neg (by rw [h]; decide)
def FramedD (l : List RecD) (w : World) (e : Ending) (w' : World) : Prop :=
  ∃ v, e = .returned (.tuple #[v, .bool (writeB l)]) ∧ OB w' w.heap.size v (framedD l) ∧ Below w.heap.size w w'
theorem wroteN_pos {l : List RecD} (h : writeB l = true) : 0 < (wroteN l).length := by
  rw [wroteN_yes h, List.length_append]
  have := putN_pos l.length
  omega
theorem news_bytes {w : World} {g : Nat} {L : List Nat} (hC : ∀ j, j < L.length → w.cell? ⟨g, j, none⟩ = some (.int .u8 (L.getD j 0 : Nat))) : ∀ j u, (L.map byteV)[j]? = some u → w.cell? ((⟨g, 0, none⟩ : Addr).add j) = some u := fun j u hu => by
  have hj : j < L.length := by
    have := (List.getElem?_eq_some_iff.1 hu).1
    simpa using this
  rw [byteV_get hj] at hu
  cases hu
  rw [add_zero_block]
  exact hC j hj
theorem one_bytes {L : List Nat} : ∀ u ∈ L.map byteV, u.oneCell' = true := fun u hu => by
  obtain ⟨z, _, rfl⟩ := List.mem_map.1 hu
  rfl
set_option maxRecDepth 100000 in
set_option maxHeartbeats 2000000 in
theorem specFramed_any (v : Value) (l : List RecD) (w : World) (h : Rt w w.heap.size v l) :
    Calls Tryz.prog 161 #[v] w (FramedD l w) := by
  have H := Lib.hid h
  obtain ⟨i0, hi, hz0, hz1, hz2⟩ := info_parts info_u8
  have HI := Lib.hid hi
  have HZ0 := Lib.hid hz0
  have HZ1 := Lib.hid hz1
  have HZ2 := Lib.hid hz2
  clear h hi hz0 hz1 hz2
  go_enter Tryz.func161, Tryz.ntmps161
  go_wp2_with fail
  refine (specRecBytes_any v l w H.out).mono ?_
  rintro e w1 ⟨v1, rfl, O1, K1⟩
  have HO1 := Lib.hid O1
  have HK1 := Lib.hid K1
  have hlen := wroteN_len l
  have hbt := O1.bt
  obtain ⟨A1, c1, g1, rfl, hcap, hA1, hB1, hg1, C1⟩ := O1.open_
  have HBT := Lib.hid hbt
  have HC1 := Lib.hid C1
  clear O1 K1 hbt C1
  cases hw : writeB l
  · have HW := Lib.hid hw
    clear hw
    go_wp2_with fail
    go_ret2
    refine ⟨_, ret_two rfl (bool_eq HW.out.symm), ?_, HK1.out.alloc HK1.out.size _⟩
    rw [framedD_no HW.out]
    exact OB.empty HK1.out.size
  · have HW := Lib.hid hw
    have hpos := wroteN_pos hw
    have hg1' := hg1 hpos
    obtain rfl := hA1 hpos
    clear hw hg1 hA1
    have HF := Lib.hid (framedD_yes HW.out)
    generalize wroteN l = M at *
    generalize hm : M.length = m at *
    have HM := Lib.hid hm
    clear hm
    go_wp2_with fail
    refine (l4Two_any m w1 (by omega)).mono ?_
    rintro e w2 ⟨v2, rfl, O2, K2⟩
    have HO2 := Lib.hid O2
    have HK2 := Lib.hid K2
    clear O2 K2
    go_wp2_with fail
    refine (specSumOf_any _ M w2 (HBT.out.go HK2.out)).mono ?_
    rintro e w3 ⟨rfl, rfl⟩
    have hs := sumN_lt M
    generalize hsm : sumN M = s at *
    have HSM := Lib.hid hsm
    clear hsm
    go_wp2_with fail
    refine (l4Two_any s w2 (by omega)).mono ?_
    rintro e w3 ⟨v3, rfl, O3, K3⟩
    have HO3 := Lib.hid O3
    have HK3 := Lib.hid K3
    have hl3 : (twoN s).length = 2 := rfl
    obtain ⟨A3, c3, g3, rfl, hcap3, hA3, hB3, hg3, C3⟩ := O3.open_
    obtain rfl := hA3 (by rw [hl3]; decide)
    have HC3 := Lib.hid C3
    clear O3 K3 hA3 hg3 C3
    rw [hl3] at *
    have HR2 := Lib.hid (ownsRow_below HO2.out.own HK3.out)
    have hl2 : (twoN m).length = 2 := rfl
    rw [hl2] at HR2
    have hb3 := Nat.le_trans HK2.out.size HK3.out.size
    have HN3 : Hid (∀ j u, ((twoN s).map byteV)[j]? = some u → w3.cell? ((⟨g3, 0, none⟩ : Addr).add j) = some u) := Lib.hid (news_bytes fun j hj => (HC3.out j hj).1)
    have HK := Lib.hid ((HK1.out.trans (HK2.out.mono HK1.out.size)).trans (HK3.out.mono (Nat.le_trans HK1.out.size HK2.out.size)))
    have HN1 : Hid (∀ j, j < M.length → w3.cell? ⟨g1, j, none⟩ = some (.int .u8 (M.getD j 0 : Nat))) := Lib.hid fun j hj =>
      ((HK3.out.mono HK2.out.size).cell (p := ⟨g1, j, none⟩) hg1').trans ((HK2.out.cell (p := ⟨g1, j, none⟩) hg1').trans (HC1.out j (by rw [HM.out] at hj; exact hj)).1)
    have HV2 : Hid (∀ r, v2.ownBlock = some r → w1.heap.size ≤ r) := Lib.hid fun r hr => (HO2.out.lt hr).1
    have HS : Hid (SmallB (frameN M)) := Lib.hid (by
      unfold frameN
      rw [HM.out, HSM.out]
      exact HO2.out.small.append (HO3.out.small.append HO1.out.small))
    clear HC1 HC3 HK2 HK3 HBT HO3
    go_wp2_with (first
      | (at_builtin; refine wpList_append_own _ rfl _ _ 22 rfl w1.heap.size 5 i0 (.int .u8 0) 1 1 Tryz.underlying22 HI.out HZ0.out HZ1.out HZ2.out rfl (by decide) v2 2 _ rfl HR2.out ⟨g3, 0, none⟩ 2 c3 ((twoN s).map byteV) rfl rfl HN3.out one_bytes (by unfold maxLen; decide) (by decide) hb3 ?_; clear HR2; intro v4 w4 hown4 hgrow4 hnil4; have HR4 := Lib.hid hown4; have HG4 := Lib.hid hgrow4; clear hown4 hgrow4)
      | (at_builtin; (refine wpList_append_own _ rfl _ _ 22 rfl w1.heap.size 5 i0 (.int .u8 0) 1 1 Tryz.underlying22 HI.out HZ0.out HZ1.out HZ2.out rfl (by decide) v4 4 _ rfl HR4.out ⟨g1, 0, none⟩ m c1 (M.map byteV) rfl (by rw [List.length_map, HM.out, Nat.mul_one]) (news_bytes fun j hj => HG4.out.cell (HN1.out j hj) (fun e => by have : w1.heap.size ≤ g1 := HV2.out g1 e.symm; omega)) one_bytes (by unfold maxLen; omega) (by omega) (Nat.le_trans hb3 HG4.out.size) ?_; intro v5 w5 hown5 hgrow5 hnil5)))
    go_ret2
    refine ⟨_, ret_two rfl (bool_eq HW.out.symm), ⟨?_, by rw [HF.out]; exact HS.out⟩, ?_⟩
    · rw [HF.out, frameN_length]
      have e1 : (frameN M).map byteV = (twoN m).map byteV ++ (twoN s).map byteV ++ M.map byteV := by
        unfold frameN
        rw [HM.out, HSM.out, List.map_append, List.map_append, List.append_assoc]
      rw [e1, HM.out]
      exact ownsRow_base hown5 HK1.out.size
    · exact (HK.out.grown HG4.out HK.out.size (fun r hr => Nat.le_trans HK1.out.size (HV2.out r hr))).grown hgrow5 (Nat.le_trans HK.out.size HG4.out.size) (fun r hr => Nat.le_trans HK1.out.size (World.ownsRow.lt HR4.out r hr).1)
end Go.Proofs.YtobpjahjahlhpaaGreatDoor
/- Fj -/
set_option linter.unusedVariables false
namespace Go.Proofs.YtobpjahjahlhpaaGreatDoor
open Go.RowKit

/-- A slice that has a place, or nil. -/
def Real (v : Value) : Prop := v = .slice none 0 0 ∨ ∃ ad m c, v = .slice (some ad) m c
theorem OB.real {w : World} {B : Nat} {v : Value} {L : List Nat} (h : OB w B v L) : Real v := by
  rcases h.own.2 with ⟨h0, -⟩ | ⟨g, cap, cur, rfl, -⟩
  · exact .inl h0
  · exact .inr ⟨_, _, _, rfl⟩
def headOf (v : Value) (p : Nat) : Value := match v with
  | .slice none _ _ => .slice none 0 0
  | .slice (some ad) _ c => .slice (some ad) p c
  | v => v
theorem Real.head {v : Value} (h : Real v) (p : Nat) : Real (headOf v p) := by
  rcases h with rfl | ⟨ad, m, c, rfl⟩
  · exact .inl rfl
  · exact .inr ⟨_, _, _, rfl⟩
theorem Bt.slice_len {w : World} {B : Nat} {A : Option Addr} {m c : Nat} {L : List Nat} (h : Bt w B (.slice A m c) L) : L.length = m ∧ m ≤ c := by
  obtain ⟨⟨A', c1, hv, hcap, hc⟩, hl, hs⟩ := h
  injection hv with h1 h2 h3
  subst h2 h3
  exact ⟨rfl, hcap⟩
theorem Bt.head {w : World} {B p : Nat} {v : Value} {L : List Nat} (h : Bt w B v L) (hr : Real v) (hp : p ≤ L.length) : Bt w B (headOf v p) (L.take p) := by
  rcases hr with rfl | ⟨ad, m, c, rfl⟩
  · have e := h.slice_len.1
    have : L = [] := List.eq_nil_of_length_eq_zero e
    subst this
    simpa [headOf] using Bt.nil w B none 0
  · exact h.take hp (by have := h.slice_len; omega)

theorem wpList_append_bt {w : World} {ops : Array Oper} {rest : List Oper} {o : Oper} {a : Act} {Q : Exit → Act → World → Prop} (hgd : o.guard = none) (s x : Operand)
    (ho : o.op = .call { callee := .builtin .append, args := #[s, x], argTypes := #[22, 22] }) (base : Nat) (v : Value) (M : List Nat) (hs : a.eval s = v) (hown : OB w base v M)
    (u : Value) (L : List Nat) (hx : a.eval x = u) {B : Nat} (hb : Bt w B u L) (hr : Real u) (hlen : M.length + L.length ≤ 8388608) (hbase : base ≤ w.heap.size)
    (h : ∀ v' w', OB w' base v' (M ++ L) → w.grownBy w' v.ownBlock → wpList Tryz.prog ops Q rest (a.put o.dst v') w') : wpList Tryz.prog ops Q (o :: rest) a w := by
  obtain ⟨i0, hi, hz0, hz1, hz2⟩ := info_parts info_u8
  rcases hr with rfl | ⟨ad, m, c, rfl⟩
  · have hL : L = [] := List.eq_nil_of_length_eq_zero hb.slice_len.1
    subst hL
    refine wpList_append_own_none hgd s x 22 ho base 5 i0 1 Tryz.underlying22 hi v M.length _ hs hown.own hx ?_
    have := h v w (by rw [List.append_nil]; exact hown) ⟨rfl, rfl, rfl, Nat.le_refl _, fun _ _ _ => rfl⟩
    exact this
  · obtain ⟨hm, hmc⟩ := hb.slice_len
    refine wpList_append_own w hgd s x 22 ho base 5 i0 (.int .u8 0) 1 1 Tryz.underlying22 hi hz0 hz1 hz2 rfl (by decide) v M.length _ hs hown.own ad m c (L.map byteV) hx (by rw [List.length_map, hm, Nat.mul_one]) ?_ one_bytes (by unfold maxLen; omega) (by omega) hbase ?_
    · intro j y hy
      have hj : j < L.length := by
        have := (List.getElem?_eq_some_iff.1 hy).1
        simpa using this
      rw [byteV_get hj] at hy
      cases hy
      obtain ⟨b, off, e, hb1, q⟩ := hb.cell hj
      cases e
      have ha : (⟨b, off, none⟩ : Addr).add j = ⟨b, off + j, none⟩ := by unfold Addr.add; split <;> simp_all
      rw [ha]
      exact q
    · intro v' w' h1 h2 _
      exact h v' w' ⟨by rw [List.length_append, List.map_append, hm]; exact h1, hown.small.append hb.small⟩ h2
end Go.Proofs.YtobpjahjahlhpaaGreatDoor
/- Sa -/
set_option linter.unusedVariables false
namespace Go.Proofs.YtobpjahjahlhpaaGreatDoor
open Go.RowKit
/-- Block g holds n whole numbers, as x tells, and no more. -/
structure Cells (w : World) (g n : Nat) (x : Nat → Int) : Prop where
  it : ∃ cur, w.heap[g]? = some (.cells cur 2 (0, 0)) ∧ cur.size = n ∧ ∀ j, j < n → cur[j]? = some (.int .i64 (x j))
theorem Cells.lt {w : World} {g n : Nat} {x : Nat → Int} (h : Cells w g n x) : g < w.heap.size := by
  obtain ⟨cur, hh, _⟩ := h
  exact (Array.getElem?_eq_some_iff.1 hh).1
theorem Cells.at_ {w : World} {g n : Nat} {x : Nat → Int} (h : Cells w g n x) {j : Nat} (hj : j < n) : w.cell? ⟨g, j, none⟩ = some (.int .i64 (x j)) ∧ w.frozen? ⟨g, j, none⟩ = false := by
  obtain ⟨cur, hh, _, hc⟩ := h
  exact ⟨(cell_of_row _ _ _ _ _ _ hh).trans (hc j hj), frozen_of_row _ _ _ _ _ hh⟩
theorem Cells.set {w : World} {g n : Nat} {x : Nat → Int} (h : Cells w g n x) (i : Nat) (v : Int) : Cells (w.setCell ⟨g, i, none⟩ (.int .i64 v)) g n (fun j => if j = i then v else x j) := by
  obtain ⟨cur, hh, hs, hc⟩ := h
  refine ⟨cur.setIfInBounds i (.int .i64 v), ?_, by simp [hs], fun j hj => ?_⟩
  · rw [Go.Sort.setCell_eq]
    simp [Go.Sort.mapBlock, Array.getElem?_modify, hh, Go.Sort.onCells]
  · by_cases e : j = i
    · subst e
      simp [hs, hj]
    · rw [Array.getElem?_setIfInBounds_ne (fun he => e he.symm), hc j hj, if_neg e]
theorem Cells.congr {w : World} {g n : Nat} {x y : Nat → Int} (h : Cells w g n x) (e : ∀ j, j < n → x j = y j) : Cells w g n y := by
  obtain ⟨cur, hh, hs, hc⟩ := h
  exact ⟨cur, hh, hs, fun j hj => by rw [hc j hj, e j hj]⟩
theorem Cells.drewN {w : World} {g n : Nat} {x : Nat → Int} (h : Cells w g n x) (q : Nat) : Cells (w.drewN q) g n x := ⟨h.it⟩
/-- The same numbers, in whichever order and however often. -/
structure Same (n : Nat) (x y : Nat → Int) : Prop where
  there : ∀ j, j < n → ∃ k, k < n ∧ y k = x j
  back : ∀ k, k < n → ∃ j, j < n ∧ y k = x j
theorem Same.refl (n : Nat) (x : Nat → Int) : Same n x x := ⟨fun j hj => ⟨j, hj, rfl⟩, fun j hj => ⟨j, hj, rfl⟩⟩
/-- y with what lies at two places put each in the other's. -/
def swapped (y : Nat → Int) (a b : Nat) : Nat → Int := fun j => if j = b then y a else if j = a then y b else y j
theorem Same.swap {n : Nat} {x y : Nat → Int} (h : Same n x y) {a b : Nat} (ha : a < n) (hb : b < n) : Same n x (swapped y a b) := by
  refine ⟨fun j hj => ?_, fun k hk => ?_⟩
  · obtain ⟨k, hk, e⟩ := h.there j hj
    by_cases e1 : k = a
    · exact ⟨b, hb, by rw [← e, e1]; exact if_pos rfl⟩
    · by_cases e2 : k = b
      · refine ⟨a, ha, ?_⟩
        rw [← e, e2]
        unfold swapped
        by_cases e3 : a = b
        · rw [if_pos e3, e3]
        · rw [if_neg e3, if_pos rfl]
      · exact ⟨k, hk, by rw [← e]; unfold swapped; rw [if_neg e2, if_neg e1]⟩
  · unfold swapped
    split
    · exact h.back a ha
    · split
      · exact h.back b hb
      · exact h.back k hk
/-- Up to m all rise (or stay), but for what lies at place j, which may be too small for its place. -/
def RiseBut (y : Nat → Int) (m j : Nat) : Prop := ∀ a b, a < b → b < m → b ≠ j → y a ≤ y b
def Rises (y : Nat → Int) (m : Nat) : Prop := ∀ a b, a < b → b < m → y a ≤ y b
theorem Rises.but {y : Nat → Int} {m : Nat} (h : Rises y m) : RiseBut y (m + 1) m := fun a b h1 h2 h3 => h a b h1 (by omega)
theorem RiseBut.stop {y : Nat → Int} {m j : Nat} (h : RiseBut y m j) (hs : j = 0 ∨ y (j - 1) ≤ y j) : Rises y m := fun a b h1 h2 => by
  by_cases e : b = j
  · subst e
    have h3 := hs.resolve_left (by omega)
    by_cases e2 : a = b - 1
    · subst e2; exact h3
    · exact Int.le_trans (h a (b - 1) (by omega) (by omega) (by omega)) h3
  · exact h a b h1 h2 e
theorem RiseBut.swap {y : Nat → Int} {m j : Nat} (h : RiseBut y m j) (hj : 0 < j) (hl : y j < y (j - 1)) : RiseBut (swapped y j (j - 1)) m (j - 1) := fun a b h1 h2 h3 => by
  unfold swapped
  rw [if_neg h3]
  by_cases e1 : b = j
  · rw [if_pos e1]
    by_cases e2 : a = j - 1
    · rw [if_pos e2]; omega
    · rw [if_neg e2, if_neg (by omega)]
      exact h a (j - 1) (by omega) (by omega) (by omega)
  · rw [if_neg e1]
    by_cases e2 : a = j - 1
    · rw [if_pos e2]
      by_cases e3 : j < b
      · exact h j b e3 h2 e1
      · omega
    · rw [if_neg e2]
      by_cases e3 : a = j
      · rw [if_pos e3]
        exact h (j - 1) b (by omega) h2 e1
      · rw [if_neg e3]
        exact h a b h1 h2 e1

set_option maxHeartbeats 400000 in
theorem isNaN_any (x : Int) (w : World) : Calls Tryz.prog 182 #[.int .i64 x] w fun e w' => e = .returned (.bool false) ∧ w' = w := by
  go_enter Tryz.func182, Tryz.ntmps182
  go_wp2
  go_ret
  exact ⟨ret_bool (by simp), rfl⟩
set_option maxHeartbeats 400000 in
theorem less_any (x y : Int) (w : World) : Calls Tryz.prog 155 #[.int .i64 x, .int .i64 y] w fun e w' => e = .returned (.bool (decide (x < y))) ∧ w' = w := by
  go_enter Tryz.func155, Tryz.ntmps155
  go_wp2_with (go_at_call 182; refine (isNaN_any _ _).mono ?_; rintro e w' ⟨rfl, rfl⟩)
  go_ret
  exact ⟨rfl, rfl⟩

set_option maxRecDepth 100000 in
set_option maxHeartbeats 1000000 in
theorem len64_any (n : Nat) (w : World) (hn : n ≤ 12) : Calls Tryz.prog 209 #[.int .u64 n] w fun e w' => (∃ k : Int, e = .returned (.int .i64 k)) ∧ w' = w := by
  have : n = 0 ∨ n = 1 ∨ n = 2 ∨ n = 3 ∨ n = 4 ∨ n = 5 ∨ n = 6 ∨ n = 7 ∨ n = 8 ∨ n = 9 ∨ n = 10 ∨ n = 11 ∨ n = 12 := by omega
  rcases this with rfl | rfl | rfl | rfl | rfl | rfl | rfl | rfl | rfl | rfl | rfl | rfl | rfl
  all_goals
    go_enter Tryz.func209, Tryz.ntmps209
    go_wp2
    go_ret
    exact ⟨⟨_, rfl⟩, rfl⟩
theorem len_any (n : Nat) (w : World) (hn : n ≤ 12) : Calls Tryz.prog 199 #[.int .u64 n] w fun e w' => (∃ k : Int, e = .returned (.int .i64 k)) ∧ w' = w := by
  go_enter Tryz.func199, Tryz.ntmps199
  go_wp2_with (go_at_call 209; refine (len64_any _ _ hn).mono ?_; rintro e w' ⟨⟨k, rfl⟩, rfl⟩)
  go_ret
  exact ⟨⟨_, rfl⟩, rfl⟩

/-- What a sort leaves: nothing is answered, the same numbers rise, all else is as it was. -/
def Sorted (g n : Nat) (x : Nat → Int) (w : World) (e : Ending) (w' : World) : Prop :=
  e = .returned (.tuple #[]) ∧ ∃ y, Cells w' g n y ∧ Same n x y ∧ Rises y n ∧ Keeps (· = g) w w'

set_option maxRecDepth 100000 in
set_option maxHeartbeats 2000000 in
theorem insertionSort_any (g n : Nat) (x : Nat → Int) (w : World) (hX : Cells w g n x) (hn : n ≤ 12) :
    Calls Tryz.prog 200 #[.slice (some ⟨g, 0, none⟩) n n, .int .i64 0, .int .i64 n] w (Sorted g n x w) := by
  go_enter Tryz.func200, Tryz.ntmps200
  go_wp2
  go_loopw [6] (fun vi wr => ∃ i : Nat, vi = .int .i64 i ∧ 1 ≤ i ∧ i ≤ n + 1 ∧ ∃ y, Cells wr g n y ∧ Same n x y ∧ Rises y (min i n) ∧ Keeps (· = g) w wr) (fun vi _ => n + 1 - (intOf vi).toNat)
  case atStart => exact ⟨1, rfl, Nat.le_refl _, by omega, x, hX, Same.refl _ _, fun a b h1 h2 => by omega, Keeps.refl _ _⟩
  case round =>
    clear hX
    obtain ⟨i, rfl, h1, h2, y, hY, hS, hR, hK⟩ := hrel
    have HY := Lib.hid hY
    have HS := Lib.hid hS
    have HR := Lib.hid hR
    have HK := Lib.hid hK
    clear hY hS hR hK
    by_cases hlt : i < n
    · go_wp2
      go_loopw [7] (fun vj wr2 => ∃ j : Nat, vj = .int .i64 j ∧ j ≤ i ∧ ∃ z, Cells wr2 g n z ∧ Same n x z ∧ RiseBut z (i + 1) j ∧ Keeps (· = g) w wr2) (fun vj _ => (intOf vj).toNat)
      case atStart => exact ⟨i, rfl, Nat.le_refl _, y, HY.out, HS.out, by have := HR.out; rw [Nat.min_eq_left (by omega)] at this; exact this.but, HK.out⟩
      case round =>
        clear HY HS HR HK
        obtain ⟨j, rfl, hj, z, hZ, hS, hR, hK⟩ := hrel
        have HZ := Lib.hid hZ
        have HS := Lib.hid hS
        have HR := Lib.hid hR
        have HK := Lib.hid hK
        have hdone : (j = 0 ∨ z (j - 1) ≤ z j) → ∀ q, ∃ i' : Nat, Value.int .i64 ((i : Int) + 1) = .int .i64 i' ∧ 1 ≤ i' ∧ i' ≤ n + 1 ∧ ∃ y, Cells (wr.drewN q) g n y ∧ Same n x y ∧ Rises y (min i' n) ∧ Keeps (· = g) w (wr.drewN q) := fun hs q =>
          ⟨i + 1, by go_num, by omega, by omega, z, HZ.out.drewN q, HS.out, by rw [Nat.min_eq_left (by omega)]; exact HR.out.stop hs, HK.out.drewN q⟩
        have HD := Lib.hid hdone
        obtain ⟨c1, f1⟩ := hZ.at_ (j := j) (by omega)
        obtain ⟨c0, f0⟩ := hZ.at_ (j := j - 1) (by omega)
        clear hZ hS hR hK hdone
        by_cases hj0 : 0 < j
        · generalize hp : z j = p at c1
          generalize hq : z (j - 1) = r at c0
          have HP := Lib.hid hp
          have HQ := Lib.hid hq
          clear hp hq
          go_wp2_with fail
          go_quiet (first | (go_at_call 155; refine Calls.quiet_of_same (less_any _ _ _)))
          by_cases hpr : p < r
          · go_wp2_with fail
            go_region
            all_goals go_wp2
            go_roundw
            case rel =>
              refine ⟨j - 1, by congr 1; omega, by omega, swapped z j (j - 1), ?_, HS.out.swap (by omega) (by omega), HR.out.swap hj0 (by rw [HP.out, HQ.out]; exact hpr), ?_⟩
              · refine ((((HZ.out.drewN _).set j r).set (j - 1) p)).congr fun k _ => ?_
                unfold swapped
                rw [HP.out, HQ.out]
              · exact ((HK.out.drewN _).set (p := ⟨g, j, none⟩) rfl _).set (p := ⟨g, j - 1, none⟩) rfl _
            case measure => simp [intOf]; omega
          · go_wp2
            go_roundw
            case rel => exact HD.out (.inr (by rw [HP.out, HQ.out]; omega)) _
            case measure => simp [intOf]; omega
        · go_wp2_with fail
          go_quiet (first | (go_at_call 155; refine Calls.quiet_of_same (less_any _ _ _)))
          go_wp2
          go_roundw
          case rel => exact HD.out (.inl (by omega)) _
          case measure => simp [intOf]; omega
    · go_wp2
      go_end0
      exact ⟨rfl, y, HY.out, HS.out, by have := HR.out; rw [Nat.min_eq_right (by omega)] at this; exact this, HK.out⟩

set_option maxRecDepth 100000 in
set_option maxHeartbeats 2000000 in
theorem pdqsort_any (g n : Nat) (k : Int) (x : Nat → Int) (w : World) (hX : Cells w g n x) (hn : n ≤ 12) :
    Calls Tryz.prog 198 #[.slice (some ⟨g, 0, none⟩) n n, .int .i64 0, .int .i64 n, .int .i64 k] w (Sorted g n x w) := by
  have hc := Lib.hid (insertionSort_any g n x w hX hn)
  clear hX
  go_enter Tryz.func198, Tryz.ntmps198
  go_wp2
  go_loopw [1, 2, 3, 8, 9] (fun s1 s2 s3 s8 s9 wr => s1 = .int .i64 0 ∧ s2 = .int .i64 n ∧ s3 = .int .i64 k ∧ s8 = .bool true ∧ s9 = .bool true ∧ wr = w) (fun _ _ _ _ _ _ => 0)
  case atStart => exact ⟨rfl, rfl, rfl, rfl, rfl, rfl⟩
  case round =>
    obtain ⟨rfl, rfl, rfl, rfl, rfl, rfl⟩ := hrel
    go_wp2_with (go_at_call 200; refine hc.out.mono ?_; rintro e w1 ⟨rfl, hw1⟩)
    (try simp only [Exit.inBlock, Exit.then])
    exact bodyPost_ret (results_none rfl _ _ _) rfl ⟨rfl, hw1⟩

set_option maxRecDepth 100000 in
set_option maxHeartbeats 1000000 in
theorem sort_any (g n : Nat) (x : Nat → Int) (w : World) (hX : Cells w g n x) (hn : n ≤ 12) :
    Calls Tryz.prog 195 #[.slice (some ⟨g, 0, none⟩) n n] w (Sorted g n x w) := by
  have HX := Lib.hid hX
  clear hX
  go_enter Tryz.func195, Tryz.ntmps195
  go_wp2_with (first
    | (go_at_call 199; refine (len_any _ _ hn).mono ?_; rintro e w' ⟨⟨k, rfl⟩, rfl⟩)
    | (go_at_call 198; refine (pdqsort_any g n _ x _ HX.out hn).mono ?_; rintro e w' ⟨rfl, hw1⟩))
  go_end0
  exact ⟨rfl, hw1⟩
end Go.Proofs.YtobpjahjahlhpaaGreatDoor
/- Sb -/
set_option linter.unusedVariables false
namespace Go.Proofs.YtobpjahjahlhpaaGreatDoor
open Go.RowKit

/-- Of the first m those that are not as the one ahead of them. -/
def dd (x : Nat → Int) : Nat → List Int
  | 0 => []
  | m + 1 => if m = 0 ∨ x m ≠ x (m - 1) then dd x m ++ [x m] else dd x m
theorem dd_new {x : Nat → Int} {m : Nat} (h : m = 0 ∨ x m ≠ x (m - 1)) : dd x (m + 1) = dd x m ++ [x m] := if_pos h
theorem dd_old {x : Nat → Int} {m : Nat} (hm : 0 < m) (h : x m = x (m - 1)) : dd x (m + 1) = dd x m := if_neg (by omega)
theorem dd_le (x : Nat → Int) : ∀ m, (dd x m).length ≤ m
  | 0 => Nat.le_refl _
  | m + 1 => by
    have := dd_le x m
    unfold dd
    split
    · simp; omega
    · omega
/-- Where no two neighbours are alike all stay. -/
theorem dd_all {x : Nat → Int} : ∀ {m : Nat}, (∀ j, 0 < j → j < m → x j ≠ x (j - 1)) → (dd x m).length = m ∧ ∀ j, j < m → x j = (dd x m).getD j 0
  | 0, _ => ⟨rfl, fun j hj => by omega⟩
  | m + 1, h => by
    obtain ⟨h1, h2⟩ := dd_all (m := m) fun j h0 hj => h j h0 (by omega)
    have hn : m = 0 ∨ x m ≠ x (m - 1) := by
      by_cases e : m = 0
      · exact .inl e
      · exact .inr (h m (by omega) (by omega))
    rw [dd_new hn]
    refine ⟨by simp [h1], fun j hj => ?_⟩
    by_cases e : j = m
    · subst e
      simp [List.getD, h1]
    · rw [h2 j (by omega)]
      simp [List.getD, List.getElem?_append_left (show j < (dd x m).length by omega)]

theorem Cells.fill {g n : Nat} : ∀ (m o : Nat) {w : World} {y : Nat → Int}, Cells w g n y → ∃ z, Cells (w.setCells g o (List.replicate m (.int .i64 0))) g n z ∧ ∀ j, j < o → z j = y j
  | 0, o, w, y, h => ⟨y, h, fun _ _ => rfl⟩
  | m + 1, o, w, y, h => by
    obtain ⟨z, hz, e⟩ := Cells.fill m (o + 1) (h.set o 0)
    exact ⟨z, hz, fun j hj => (e j (by omega)).trans (if_neg (by omega))⟩
theorem Keeps.fill {S : Nat → Prop} {g : Nat} (hg : S g) {w : World} : ∀ (m o : Nat) {w' : World}, Keeps S w w' → Keeps S w (w'.setCells g o (List.replicate m (.int .i64 0)))
  | 0, o, w', h => h
  | m + 1, o, w', h => Keeps.fill hg m (o + 1) (h.set (p := ⟨g, o, none⟩) hg _)

/-- Of the first m places' numbers those that stay lie ahead; behind them all is as it was. -/
structure Moved (x y : Nat → Int) (n m k : Nat) : Prop where
  len : (dd x m).length = k
  lt : k < m
  low : ∀ j, j < k → y j = (dd x m).getD j 0
  high : ∀ j, k ≤ j → j < n → y j = x j
theorem Moved.old {x y : Nat → Int} {n m k : Nat} (h : Moved x y n m k) (hm : 0 < m) (e : x m = x (m - 1)) : Moved x y n (m + 1) k := by
  obtain ⟨h1, h2, h3, h4⟩ := h
  exact ⟨by rw [dd_old hm e]; exact h1, by omega, by rw [dd_old hm e]; exact h3, h4⟩
theorem Moved.new {x y : Nat → Int} {n m k : Nat} (h : Moved x y n m k) (e : x m ≠ x (m - 1)) : Moved x (fun j => if j = k then x m else y j) n (m + 1) (k + 1) := by
  obtain ⟨h1, h2, h3, h4⟩ := h
  refine ⟨by rw [dd_new (.inr e)]; simp [h1], by omega, fun j hj => ?_, fun j h5 h6 => ?_⟩
  · rw [dd_new (.inr e)]
    by_cases e2 : j = k
    · rw [if_pos e2, e2]
      simp [List.getD, ← h1]
    · rw [if_neg e2, h3 j (by omega)]
      simp [List.getD, List.getElem?_append_left (show j < (dd x m).length by omega)]
  · rw [if_neg (by omega)]
    exact h4 j (by omega) h6

/-- What Compact leaves. -/
def Compacted (g n : Nat) (x : Nat → Int) (w : World) (e : Ending) (w' : World) : Prop :=
  e = .returned (.slice (some ⟨g, 0, none⟩) (dd x n).length n) ∧ ∃ y, Cells w' g n y ∧ (∀ j, j < (dd x n).length → y j = (dd x n).getD j 0) ∧ Keeps (· = g) w w'
theorem Compacted.same {g n : Nat} {x : Nat → Int} {w w' : World} (h : ∀ j, 0 < j → j < n → x j ≠ x (j - 1)) (hX : Cells w' g n x) (hK : Keeps (· = g) w w') : Compacted g n x w (.returned (.slice (some ⟨g, 0, none⟩) n n)) w' := by
  obtain ⟨h1, h2⟩ := dd_all h
  exact ⟨by rw [h1], x, hX, by rw [h1]; exact h2, hK⟩

set_option maxRecDepth 100000 in
set_option maxHeartbeats 4000000 in
theorem compact_any (g n : Nat) (x : Nat → Int) (w : World) (hX : Cells w g n x) (hn : n ≤ 12) :
    Calls Tryz.prog 196 #[.slice (some ⟨g, 0, none⟩) n n] w (Compacted g n x w) := by
  have HX := Lib.hid hX
  clear hX
  go_enter Tryz.func196, Tryz.ntmps196
  by_cases h2 : n < 2
  · go_wp2
    go_ret
    exact Compacted.same (fun j h0 hj => by omega) HX.out (Keeps.refl _ _)
  · go_wp2
    go_loopw [3] (fun v wr => ∃ k : Nat, v = .int .i64 k ∧ 1 ≤ k ∧ k ≤ n ∧ (∀ j, 0 < j → j < k → x j ≠ x (j - 1)) ∧ Cells wr g n x ∧ Keeps (· = g) w wr) (fun v _ => n - (intOf v).toNat)
    case atStart => exact ⟨1, rfl, Nat.le_refl _, by omega, fun j h0 hj => by omega, HX.out, Keeps.refl _ _⟩
    case round =>
      clear HX
      obtain ⟨k, rfl, hk1, hk, hall, hX, hK⟩ := hrel
      have HA := Lib.hid hall
      have HX := Lib.hid hX
      have HK := Lib.hid hK
      clear hall hK
      by_cases hlt : k < n
      · obtain ⟨c1, f1⟩ := hX.at_ hlt
        obtain ⟨c0, f0⟩ := hX.at_ (j := k - 1) (by omega)
        clear hX
        generalize hp : x k = p at c1
        generalize hr : x (k - 1) = r at c0
        have HP := Lib.hid hp
        have HR := Lib.hid hr
        clear hp hr
        by_cases hdup : p = r
        · subst hdup
          go_wp2_with fail
          go_region
          go_wp2
          clear c0 c1 f0 f1
          have M0 : Moved x x n (k + 1) k := by
            obtain ⟨h1, h3⟩ := dd_all HA.out
            have e : x k = x (k - 1) := by rw [HP.out, HR.out]
            exact ⟨by rw [dd_old (by omega) e]; exact h1, by omega, by rw [dd_old (by omega) e]; exact h3, fun _ _ _ => rfl⟩
          have HM0 := Lib.hid M0
          clear M0
          go_loopw [3, 5] (fun v3 v5 wr2 => ∃ kk k2 : Nat, v3 = .int .i64 kk ∧ v5 = .int .i64 k2 ∧ 1 ≤ k2 ∧ k + k2 ≤ n ∧ ∃ y, Moved x y n (k + k2) kk ∧ Cells wr2 g n y ∧ Keeps (· = g) w wr2) (fun _ v5 _ => n - (intOf v5).toNat)
          case atStart => exact ⟨k, 1, rfl, rfl, Nat.le_refl _, by omega, x, HM0.out, HX.out.drewN _, HK.out.drewN _⟩
          case round =>
            clear HX HK HM0
            obtain ⟨kk, k2, rfl, rfl, h1, hle, y, hM, hY, hK⟩ := hrel
            have hkk := hM.lt
            have HM := Lib.hid hM
            have HY := Lib.hid hY
            have HK := Lib.hid hK
            clear hK
            by_cases hlt2 : k + k2 < n
            · obtain ⟨cm, _⟩ := hY.at_ (j := k + k2) (by omega)
              obtain ⟨cp, _⟩ := hY.at_ (j := k + (k2 - 1)) (by omega)
              obtain ⟨ck, fk⟩ := hY.at_ (j := kk) (by omega)
              rw [hM.high (k + k2) (by omega) (by omega)] at cm
              rw [hM.high (k + (k2 - 1)) (by omega) (by omega)] at cp
              clear hY hM
              generalize hu : x (k + k2) = u at cm
              generalize hv : x (k + (k2 - 1)) = v at cp
              generalize y kk = old at ck
              have HU := Lib.hid hu
              have HV := Lib.hid (show x (k + k2 - 1) = v by rw [← hv]; congr 1; omega)
              clear hu hv
              by_cases huv : u = v
              · subst huv
                go_wp2_with fail
                go_region
                go_wp2
                go_roundw
                case measure => simp [intOf]; omega
                case rel => exact ⟨kk, k2 + 1, by first | rfl | trivial, by go_num, by omega, by omega, y, HM.out.old (by omega) (by rw [HU.out, HV.out]), HY.out.drewN _, HK.out.drewN _⟩
              · go_wp2_with fail
                go_region
                go_wp2
                go_roundw
                case measure => simp [intOf]; omega
                case rel =>
                  refine ⟨kk + 1, k2 + 1, by go_num, by go_num, by omega, by omega, _, HM.out.new (by rw [HU.out, HV.out]; exact huv), ?_, ?_⟩
                  · rw [HU.out]
                    first
                      | exact ((HY.out.set kk u).drewN 1)
                      | exact (HY.out.drewN _).set kk u
                  · first
                      | exact ((HK.out.set (p := ⟨g, kk, none⟩) rfl _).drewN 1)
                      | exact (HK.out.drewN _).set (p := ⟨g, kk, none⟩) rfl _
            · have hend : k + k2 = n := by omega
              have hcl : ∀ ty, (Builtin.clear_ #[25] ty #[.slice (some ⟨g, kk, none⟩) (n - kk) (n - kk)]).run Tryz.prog wr = .ok (.tuple #[]) (wr.setCells g kk (List.replicate (n - kk) (.int .i64 0))) :=
                fun ty => Lib.run_clear_slice wr _ _ ty _ Tryz.underlying25 (fun w => by simp [go_sem]) rfl rfl g kk _ _ (by omega) (fun j hj => by rw [(hY.at_ (j := kk + j) (by omega)).1]; rfl) (fun j hj => (hY.at_ (j := kk + j) (by omega)).2)
              clear hY hM
              go_wp2
              go_ret
              obtain ⟨z, hz, ez⟩ := Cells.fill (n - kk) kk HY.out
              have hl := HM.out.len
              have hlow := HM.out.low
              rw [hend] at hl hlow
              exact ⟨by rw [hl]; rfl, z, hz, by rw [hl]; exact fun j hj => (ez j hj).trans (hlow j hj), Keeps.fill (S := (· = g)) rfl _ _ HK.out⟩
        · go_wp2_with fail
          go_region
          go_wp2
          go_roundw
          case measure => simp [intOf]; omega
          case rel =>
            refine ⟨k + 1, by go_num, by omega, by omega, fun j h0 hj => ?_, HX.out.drewN _, HK.out.drewN _⟩
            by_cases e : j = k
            · rw [e, HP.out, HR.out]; exact hdup
            · exact HA.out j h0 (by omega)
      · obtain rfl : k = n := by omega
        clear hX
        go_wp2
        go_ret
        exact Compacted.same HA.out HX.out HK.out
end Go.Proofs.YtobpjahjahlhpaaGreatDoor
/- Sc -/
set_option linter.unusedVariables false
namespace Go.Proofs.YtobpjahjahlhpaaGreatDoor
open Go.RowKit

set_option maxHeartbeats 400000 in
theorem bandOfPod_any (A0 A1 A2 A3 : Option Addr) (n0 c0 n1 c1 n2 c2 n3 c3 : Nat) (l p t : Int) (x0 : Nat → Int) (i : Nat) (w : World)
    (s0 : Sl w w.heap.size 4 A0 n0 x0) (hi : i < n0) (b0 : n0 ≤ maxLen) :
    Calls Tryz.prog 139 #[planV A0 A1 A2 A3 n0 c0 n1 c1 n2 c2 n3 c3 l p t, .int .i64 i] w fun e w' =>
      e = .returned (.int .i64 (x0 (i * 4 + 1))) ∧ Below w.heap.size w w' := by
  unfold maxLen at b0
  obtain ⟨b, off, rfl, hb, q0, q1, q2, q3⟩ := s0.cell4 hi
  clear s0
  go_enter Tryz.func139, Tryz.ntmps139
  go_wp2
  go_ret
  exact ⟨rfl, (Below.refl _ _).alloc (Nat.le_refl _) _⟩
theorem enter_bandOfPod (x y : Value) (wr : World) : (callFunc 139 #[x, y]).run Tryz.prog wr = .ok (.enter 139 #[x, y]) wr := by simp [go_sem]

set_option maxRecDepth 100000 in
set_option maxHeartbeats 1000000 in
theorem implPodsOf_any (v : Value) (d : PlanD) (wanted : Int) (w : World) (h : IsPlan w w.heap.size v d) (hn : d.n0 ≤ 1048576) :
    Calls Tryz.prog 92 #[v, .int .i64 wanted] w (Listed w (found d d.n0 (fun i => d.x0 (i * 4 + 1)) wanted)) := by
  have P := Lib.hid h
  obtain ⟨⟨A0, A1, A2, A3, c0, c1, c2, c3, rfl, s0, s1, s2, s3⟩, b0, b1, b2, b3⟩ := h
  have S := Lib.hid s0
  have B := Lib.hid b0
  have HN := Lib.hid hn
  clear s0 s1 s2 s3 b0 b1 b2 b3 hn
  go_enter Tryz.func92, Tryz.ntmps92
  go_wp2_with fail
  have X1 := Own.box w (planC A0 A1 A2 A3 d.n0 c0 d.n1 c1 d.n2 c2 d.n3 c3 d.l d.p d.t) 29
  refine (numbersWith_any _ d _ d.n0 (fun i => d.x0 (i * 4 + 1)) wanted _ ((P.out.below X1.K (Nat.le_refl _)).more X1.K.size) HN.out enter_bandOfPod ?_).mono ?_
  · exact fun i hi wr hb => bandOfPod_any A0 A1 A2 A3 d.n0 c0 d.n1 c1 d.n2 c2 d.n3 c3 d.l d.p d.t d.x0 i wr ((S.out.below (X1.K.trans (hb.mono X1.K.size)) (Nat.le_refl _)).more (X1.K.trans (hb.mono X1.K.size)).size) hi B.out
  · intro e w2 hL
    obtain ⟨v', rfl, O, K⟩ := hL.back X1.K
    clear hL
    go_wp2_with fail
    go_ret
    exact ⟨_, rfl, O, K⟩

set_option maxRecDepth 100000 in
set_option maxHeartbeats 2000000 in
theorem specPodsOf_any (v : Value) (d : PlanD) (wanted : Int) (w : World) (h : IsPlan w w.heap.size v d) (hn : d.n0 ≤ 1048576) :
    Calls Tryz.prog 175 #[v, .int .i64 wanted] w (Listed w (found d d.n0 (fun i => d.x0 (i * 4 + 1)) wanted)) := by
  have P := Lib.hid h
  obtain ⟨⟨A0, A1, A2, A3, c0, c1, c2, c3, rfl, s0, s1, s2, s3⟩, b0, b1, b2, b3⟩ := h
  have S := Lib.hid s0
  have HN := Lib.hid hn
  have hn' : d.n0 ≤ 2 ^ 63 - 1 := by omega
  clear s0 s1 s2 s3 b0 b1 b2 b3 hn
  obtain ⟨i0, hi, hz0, hz1, hz2⟩ := info_parts info_i64
  have HI := Lib.hid hi
  have HZ0 := Lib.hid hz0
  have HZ1 := Lib.hid hz1
  have HZ2 := Lib.hid hz2
  clear hi hz0 hz1 hz2
  go_enter Tryz.func175, Tryz.ntmps175
  go_wp2
  have X1 := (Own.box w (planC A0 A1 A2 A3 d.n0 c0 d.n1 c1 d.n2 c2 d.n3 c3 d.l d.p d.t) 29).alloc (.cells #[] 2)
  have O1 : ((w.alloc (.cells (planC A0 A1 A2 A3 d.n0 c0 d.n1 c1 d.n2 c2 d.n3 c3 d.l d.p d.t) 29)).alloc (.cells #[] 2)).ownsRow (w.heap.size + 1) 2 1 (.slice (some ⟨w.heap.size + 1, 0, none⟩) 0 0) 0 [] := by
    have := World.ownsRow_made (base := w.heap.size + 1) (e := 2) (size := 1) (w.alloc (.cells (planC A0 A1 A2 A3 d.n0 c0 d.n1 c1 d.n2 c2 d.n3 c3 d.l d.p d.t) 29)) #[] 0 (by simp) (Nat.zero_le _) rfl
    simpa using this
  go_loopw [5, 6] (fun v i wr => ∃ k : Nat, k ≤ d.n0 ∧ i = .int .i64 k ∧ (k = 0 ∨ planOkB d = true) ∧ wr.ownsRow (w.heap.size + 1) 2 1 v (hits k (fun i => d.x0 (i * 4 + 1)) wanted).length ((hits k (fun i => d.x0 (i * 4 + 1)) wanted).map (Value.int .i64)) ∧
    Own w wr w.heap.size (planC A0 A1 A2 A3 d.n0 c0 d.n1 c1 d.n2 c2 d.n3 c3 d.l d.p d.t)) (fun _ i _ => d.n0 - (intOf i).toNat)
  case atStart => exact ⟨0, Nat.zero_le _, rfl, .inl rfl, O1, X1⟩
  case round =>
    clear O1 X1
    obtain ⟨k, hk, rfl, hor, O, X⟩ := hrel
    have HR := Lib.hid hor
    have HO := Lib.hid O
    clear hor O
    have hC := X.C
    have hz := X.z
    by_cases hlt : k < d.n0
    · cases hq : planOkB d
      · have HQ := Lib.hid hq
        go_wp2_with (go_at_call 50; refine (spec_planOk_any _ d _ ((P.out.below X.K (Nat.le_refl _)).more X.K.size)).mono ?_; rintro e w2 ⟨rfl, hb2⟩; have X2 := X.step hb2)
        go_ret
        refine ⟨_, rfl, ?_, X2.K⟩
        have hk0 : k = 0 := HR.out.resolve_right (by rw [HQ.out]; decide)
        rw [found_no HQ.out]
        have := ownsRow_base (ownsRow_below HO.out hb2) (Nat.le_succ _)
        rw [hk0] at this
        exact this
      · have HQ := Lib.hid hq
        have hle := hits_le k (fun i => d.x0 (i * 4 + 1)) wanted
        have h63 : (hits k (fun i => d.x0 (i * 4 + 1)) wanted).length + 1 ≤ maxLen := by have := HN.out; unfold maxLen; omega
        have hby : ((hits k (fun i => d.x0 (i * 4 + 1)) wanted).length + 1) * 8 ≤ 140737488355328 := by have := HN.out; omega
        have H63 := Lib.hid h63
        have HBY := Lib.hid hby
        clear h63 hby hle
        obtain ⟨b, off, rfl, hb, q0, q1, q2, q3⟩ := (S.out.own X).cell4 hlt
        cases hv : (d.x0 (k * 4 + 1) == wanted)
        · have HV := Lib.hid (hits_no (f := fun i => d.x0 (i * 4 + 1)) hv)
          go_wp2_with (go_at_call 50; refine (spec_planOk_any _ d _ ((P.out.below X.K (Nat.le_refl _)).more X.K.size)).mono ?_; rintro e w2 ⟨rfl, hb2⟩; have X2 := X.step hb2; have hC2 := X2.C; have hD2 := (bcell hb2).1)
          refine ⟨⟨k + 1, by omega, by go_num, .inr (by first | exact HQ.out | trivial), by rw [HV.out]; exact ownsRow_below HO.out hb2, X2⟩, by simp [intOf]; omega⟩
        · have HV := Lib.hid (hits_yes (f := fun i => d.x0 (i * 4 + 1)) hv)
          go_wp2_with (first
            | (go_at_call 50; refine (spec_planOk_any _ d _ ((P.out.below X.K (Nat.le_refl _)).more X.K.size)).mono ?_; rintro e w2 ⟨rfl, hb2⟩; have X2 := X.step hb2; have hC2 := X2.C; have hD2 := (bcell hb2).1)
            | (at_builtin; refine wpList_append_own _ rfl _ _ 25 rfl (w.heap.size + 1) 2 i0 (.int .i64 0) 1 8 Tryz.underlying25 HI.out HZ0.out HZ1.out HZ2.out rfl (by decide) _ _ _ rfl ((ownsRow_below HO.out hb2).alloc _) ⟨w2.heap.size, 0, none⟩ 1 1 [.int .i64 k] rfl rfl (cell_one_new _ _ _) (fun x hx => by simp at hx; subst hx; rfl) H63.out HBY.out (by have := X2.z; simp; omega) ?_; intro v' w4 hown' hgrow hnil))
          have X3 := X2.alloc (.cells #[.int .i64 k] 2)
          have OB := (ownsRow_below HO.out hb2)
          refine ⟨⟨k + 1, by omega, by go_num, .inr (by first | exact HQ.out | trivial), ?_, ?_⟩, by simp [intOf]; omega⟩
          · rw [HV.out]
            simpa using hown'
          · exact X3.grown hgrow fun g hg => by have := (OB.lt g hg).1; omega
    · obtain rfl : k = d.n0 := by omega
      go_wp2
      go_ret
      refine ⟨_, rfl, ?_, X.K⟩
      have := ownsRow_base HO.out (Nat.le_succ _)
      rcases HR.out with h0 | h1
      · cases hq : planOkB d
        · rw [found_no hq]
          rw [h0] at this
          exact this
        · rw [found_yes hq]; exact this
      · rw [found_yes h1]; exact this

theorem implPods_any (v : Value) (d : PlanD) (b : Int) (w : World) (h : IsPlan w w.heap.size v d) (hn : d.n0 ≤ 1048576) :
    Calls Tryz.prog 92 #[v, .int .i64 b] w (Listed w (podsL d b)) := implPodsOf_any v d b w h hn
theorem specPods_any (v : Value) (d : PlanD) (b : Int) (w : World) (h : IsPlan w w.heap.size v d) (hn : d.n0 ≤ 1048576) :
    Calls Tryz.prog 175 #[v, .int .i64 b] w (Listed w (podsL d b)) := specPodsOf_any v d b w h hn
end Go.Proofs.YtobpjahjahlhpaaGreatDoor
/- Sd -/
set_option linter.unusedVariables false
namespace Go.Proofs.YtobpjahjahlhpaaGreatDoor
open Go.RowKit

theorem rise_unique : ∀ {L M : List Int}, L.Pairwise (· < ·) → M.Pairwise (· < ·) → (∀ x, x ∈ L ↔ x ∈ M) → L = M
  | [], [], _, _, _ => rfl
  | [], b :: M, _, _, h => by have := (h b).2 (by simp); cases this
  | a :: L, [], _, _, h => by have := (h a).1 (by simp); cases this
  | a :: L, b :: M, hL, hM, h => by
    have hL' := List.pairwise_cons.1 hL
    have hM' := List.pairwise_cons.1 hM
    have hab : a = b := by
      have h1 := (h a).1 (by simp)
      have h2 := (h b).2 (by simp)
      rcases List.mem_cons.1 h1 with e | e
      · exact e
      · rcases List.mem_cons.1 h2 with e2 | e2
        · exact e2.symm
        · have := hM'.1 a e
          have := hL'.1 b e2
          omega
    subst hab
    congr 1
    refine rise_unique hL'.2 hM'.2 fun x => ⟨fun hx => ?_, fun hx => ?_⟩
    · have := hL'.1 x hx
      rcases List.mem_cons.1 ((h x).1 (by simp [hx])) with e | e
      · omega
      · exact e
    · have := hM'.1 x hx
      rcases List.mem_cons.1 ((h x).2 (by simp [hx])) with e | e
      · omega
      · exact e

theorem dd_mem {x : Nat → Int} {v : Int} : ∀ {m : Nat}, v ∈ dd x m ↔ ∃ j, j < m ∧ x j = v
  | 0 => by simp [dd]
  | m + 1 => by
    by_cases h : m = 0 ∨ x m ≠ x (m - 1)
    · rw [dd_new h, List.mem_append, dd_mem (m := m), List.mem_singleton]
      refine ⟨?_, fun ⟨j, hj, e⟩ => ?_⟩
      · rintro (⟨j, hj, e⟩ | e)
        · exact ⟨j, by omega, e⟩
        · exact ⟨m, by omega, e.symm⟩
      · by_cases e2 : j = m
        · subst e2; exact .inr e.symm
        · exact .inl ⟨j, by omega, e⟩
    · rw [dd_old (by omega) (by omega), dd_mem (m := m)]
      refine ⟨fun ⟨j, hj, e⟩ => ⟨j, by omega, e⟩, fun ⟨j, hj, e⟩ => ?_⟩
      by_cases e2 : j = m
      · subst e2
        exact ⟨j - 1, by omega, by rw [← e]; omega⟩
      · exact ⟨j, by omega, e⟩
theorem dd_rise {x : Nat → Int} {n : Nat} (h : Rises x n) : ∀ {m : Nat}, m ≤ n → (dd x m).Pairwise (· < ·)
  | 0, _ => List.Pairwise.nil
  | m + 1, hm => by
    have ih := dd_rise h (m := m) (by omega)
    by_cases hn : m = 0 ∨ x m ≠ x (m - 1)
    · rw [dd_new hn, List.pairwise_append]
      refine ⟨ih, List.pairwise_singleton _ _, fun a ha b hb => ?_⟩
      obtain rfl := List.mem_singleton.1 hb
      obtain ⟨j, hj, rfl⟩ := dd_mem.1 ha
      have h1 := h (m - 1) m (by omega) (by omega)
      by_cases e : j = m - 1
      · rw [e]; omega
      · have h2 := h j (m - 1) (by omega) (by omega)
        omega
    · rw [dd_old (by omega) (by omega)]
      exact ih

theorem picks_mem_iff {n : Nat} {p : Nat → Bool} {x : Int} : x ∈ picks n p ↔ ∃ i : Nat, i < n ∧ x = i ∧ p i = true := by
  refine ⟨picks_mem, ?_⟩
  rintro ⟨i, h1, rfl, h2⟩
  simp only [picks, List.mem_map, List.mem_filter, List.mem_range]
  exact ⟨i, ⟨h1, h2⟩, rfl⟩
/-- Numbers that rise, made of the pods' bands, without repeats: the chapter's list. -/
theorem rising_bands {d : PlanD} (h : planOkB d = true) {y : Nat → Int} (hS : Same d.n0 (fun i => d.x0 (i * 4 + 1)) y) (hR : Rises y d.n0) : dd y d.n0 = bandsL d := by
  refine rise_unique (dd_rise hR (Nat.le_refl _)) (bandsL_rise d) fun v => ?_
  rw [dd_mem]
  unfold bandsL
  rw [picks_mem_iff]
  constructor
  · rintro ⟨k, hk, rfl⟩
    obtain ⟨i, hi, e⟩ := hS.back k hk
    have hb := planOk_band h hi
    have e : y k = d.x0 (i * 4 + 1) := e
    rw [e]
    refine ⟨(d.x0 (i * 4 + 1)).toNat, by omega, by omega, ?_⟩
    simp only [hasB, decide_eq_true_eq]
    unfold podsL
    rw [found_yes h]
    refine List.length_pos_of_mem (a := (i : Int)) ?_
    rw [hits_picks, picks_mem_iff]
    exact ⟨i, hi, rfl, by simp; omega⟩
  · rintro ⟨b, hb, rfl, hp⟩
    simp only [hasB, decide_eq_true_eq] at hp
    obtain ⟨v, hv⟩ := List.exists_mem_of_length_pos hp
    obtain ⟨i, hi, _, e⟩ := podsL_mem hv
    obtain ⟨k, hk, ek⟩ := hS.there i hi
    exact ⟨k, hk, ek.trans e⟩
theorem bandsL_no {d : PlanD} (h : planOkB d = false) : bandsL d = [] := by
  refine List.eq_nil_iff_forall_not_mem.2 fun x hx => ?_
  obtain ⟨i, _, _, hp⟩ := picks_mem hx
  simp only [hasB, decide_eq_true_eq] at hp
  unfold podsL at hp
  rw [found_no h] at hp
  exact absurd hp (by decide)

theorem Cells.owns {w : World} {g n : Nat} {y : Nat → Int} {L : List Int} (h : Cells w g n y) (hn : n ≤ 12) (hl : L.length ≤ n) (hL : ∀ j, j < L.length → y j = L.getD j 0) :
    w.ownsRow g 2 1 (.slice (some ⟨g, 0, none⟩) L.length n) L.length (L.map (Value.int .i64)) := by
  obtain ⟨cur, hh, hs, hc⟩ := h
  refine ⟨by simp, .inr ⟨g, n, cur, rfl, Nat.le_refl _, hh, hl, by unfold maxLen; omega, by omega, ?_⟩⟩
  rw [Nat.mul_one]
  refine List.ext_getElem? fun j => ?_
  by_cases hj : j < L.length
  · rw [List.getElem?_take_of_lt hj, Array.getElem?_toList, hc j (by omega), hL j hj]
    simp [List.getD, hj]
  · rw [List.getElem?_take_eq_none (by omega), List.getElem?_eq_none (by simp; omega)]

set_option maxRecDepth 100000 in
set_option maxHeartbeats 1000000 in
/-- The program's rising list, made in the list's own block. -/
theorem rising_any (d : PlanD) (g : Nat) (w : World) (hq : planOkB d = true) (hX : Cells w g d.n0 (fun i => d.x0 (i * 4 + 1))) :
    Calls Tryz.prog 190 #[.slice (some ⟨g, 0, none⟩) d.n0 d.n0] w fun e w' =>
      ∃ v, e = .returned v ∧ w'.ownsRow g 2 1 v (bandsL d).length ((bandsL d).map (Value.int .i64)) ∧ Keeps (· = g) w w' := by
  have hn := (planOk_lock hq).2.2.1
  have HQ := Lib.hid hq
  have HX := Lib.hid hX
  clear hq hX
  go_enter Tryz.func190, Tryz.ntmps190
  go_wp2_with fail
  refine (sort_any g d.n0 _ _ HX.out hn).mono ?_
  rintro e w1 ⟨rfl, y, hY, hS, hR, hK⟩
  have hb := rising_bands HQ.out hS hR
  have hc := compact_any g d.n0 y w1 hY hn
  unfold Compacted at hc
  have hle := dd_le y d.n0
  rw [hb] at hc hle
  have HC := Lib.hid hc
  have HK := Lib.hid hK
  clear hb hc hY hS hR hK
  go_wp2_with fail
  refine HC.out.mono ?_
  rintro e w2 ⟨rfl, z, hZ, hz, hK2⟩
  have HO := Lib.hid (hZ.owns hn hle hz)
  have HK2 := Lib.hid (HK.out.trans hK2)
  clear hZ hz hK2
  go_wp2_with fail
  go_ret
  exact ⟨_, rfl, HO.out, HK2.out⟩
end Go.Proofs.YtobpjahjahlhpaaGreatDoor
/- Se -/
set_option linter.unusedVariables false
namespace Go.Proofs.YtobpjahjahlhpaaGreatDoor
open Go.RowKit Go.Sort

/-- Block g, of n whole numbers, is being filled: the first k are as f tells. -/
structure Filling (wr : World) (g n k : Nat) (f : Nat → Int) : Prop where
  it : ∃ cur, wr.heap[g]? = some (.cells cur 2 (0, 0)) ∧ cur.size = n ∧ ∀ j, j < k → cur[j]? = some (.int .i64 (f j))
theorem Filling.lt {wr : World} {g n k : Nat} {f : Nat → Int} (h : Filling wr g n k f) : g < wr.heap.size := by
  obtain ⟨cur, hh, _⟩ := h
  exact (Array.getElem?_eq_some_iff.1 hh).1
theorem Filling.below {wr w' : World} {g n k : Nat} {f : Nat → Int} (h : Filling wr g n k f) (hb : Below wr.heap.size wr w') : Filling w' g n k f := by
  have hl := h.lt
  obtain ⟨cur, hh, r⟩ := h
  exact ⟨cur, (hb.block g hl).trans hh, r⟩
theorem Filling.at_ {wr : World} {g n k i : Nat} {f : Nat → Int} (h : Filling wr g n k f) (hi : i < n) : ∃ v, wr.cell? ⟨g, i, none⟩ = some v ∧ wr.frozen? ⟨g, i, none⟩ = false := by
  obtain ⟨cur, hh, hs, _⟩ := h
  exact ⟨cur[i]'(by omega), (cell_of_row _ _ _ _ _ _ hh).trans (Array.getElem?_eq_getElem (by omega)), frozen_of_row _ _ _ _ _ hh⟩
theorem Filling.set {wr : World} {g n k : Nat} {f : Nat → Int} (h : Filling wr g n k f) (hk : k < n) : Filling (wr.setCell ⟨g, k, none⟩ (.int .i64 (f k))) g n (k + 1) f := by
  obtain ⟨cur, hh, hs, hc⟩ := h
  refine ⟨cur.setIfInBounds k (.int .i64 (f k)), ?_, by simp [hs], fun j hj => ?_⟩
  · rw [setCell_eq]
    simp [mapBlock, Array.getElem?_modify, hh, onCells]
  · by_cases e : j = k
    · subst e
      simp [hs, hk]
    · rw [Array.getElem?_setIfInBounds_ne (fun he => e he.symm)]
      exact hc j (by omega)
theorem Filling.full {wr : World} {g n : Nat} {f : Nat → Int} (h : Filling wr g n n f) : Cells wr g n f := ⟨h.it⟩
theorem made_emptyI (w : World) {B : Nat} (hB : B ≤ w.heap.size) : (w.alloc (.cells #[] 2)).ownsRow B 2 1 (.slice (some ⟨w.heap.size, 0, none⟩) 0 0) 0 [] := by
  have := World.ownsRow_made (base := B) (e := 2) (size := 1) w #[] 0 hB (Nat.zero_le _) rfl
  simpa using this
theorem filling_new {w : World} {B g n : Nat} {f : Nat → Int} {xs : List Value} (h : w.ownsRow B 2 1 (.slice (some ⟨g, 0, none⟩) n n) n xs) : B ≤ g ∧ Filling w g n 0 f := by
  rcases h.2 with ⟨h1, _⟩ | ⟨g', cap, cur, h1, hb, h2, h3, h4, h5, h6⟩
  · cases h1
  · injection h1 with h1 _ h7
    injection h1 with h1
    injection h1 with h1 _ _
    subst h1 h7
    exact ⟨hb, cur, h2, by omega, fun j hj => absurd hj (by omega)⟩

set_option maxRecDepth 100000 in
set_option maxHeartbeats 2000000 in
theorem implBands_any (v : Value) (d : PlanD) (w : World) (h : IsPlan w w.heap.size v d) :
    Calls Tryz.prog 168 #[v] w (Listed w (bandsL d)) := by
  have P := Lib.hid h
  obtain ⟨⟨A0, A1, A2, A3, c0, c1, c2, c3, rfl, s0, s1, s2, s3⟩, b0, b1, b2, b3⟩ := h
  have S := Lib.hid s0
  have B := Lib.hid b0
  clear s0 s1 s2 s3 b0 b1 b2 b3
  obtain ⟨i0, hi, hz0, hz1, hz2⟩ := info_parts info_i64
  go_enter Tryz.func168, Tryz.ntmps168
  go_wp2_with fail
  have X1 := Own.box w (planC A0 A1 A2 A3 d.n0 c0 d.n1 c1 d.n2 c2 d.n3 c3 d.l d.p d.t) 29
  refine (planOk_any _ d _ ((P.out.below X1.K (Nat.le_refl _)).more X1.K.size)).mono ?_
  rintro e w2 ⟨rfl, hb⟩
  have X2 := X1.step hb
  clear X1 hb
  have hC := X2.C
  cases hq : planOkB d
  · have HF := Lib.hid (bandsL_no hq)
    clear hq
    go_wp2
    go_ret
    refine ⟨_, rfl, ?_, (X2.alloc (.cells #[] 2)).K⟩
    rw [HF.out]
    exact made_emptyI w2 X2.K.size
  · have HQ := Lib.hid hq
    have hn12 : d.n0 ≤ 12 := (planOk_lock hq).2.2.1
    clear hq
    have hz := X2.K.size
    have hz' := X2.z
    go_wp2_with (at_make; refine wpList_make_full _ rfl _ _ 25 rfl (w.heap.size + 1) 2 i0 (.int .i64 0) 1 Tryz.underlying25 hi hz0 hz1 _ _ _ _ d.n0 rfl rfl rfl rfl ?b2 ?b3 (by omega) ?_)
    case b2 => rw [hz2]; omega
    case b3 => unfold maxLen; omega
    intro w3 hown hgrow
    obtain ⟨hg, F3⟩ := filling_new (f := fun i => d.x0 (i * 4 + 1)) hown
    have X3 : Own w w3 w.heap.size _ := X2.grown hgrow (fun r hr => by cases hr)
    generalize w2.heap.size = g at hg F3 ⊢
    clear hown hgrow hz0 hz1 hz2 hi hC X2 hz hz'
    go_wp2
    go_loopw [15] (fun i wr => ∃ k : Nat, k ≤ d.n0 ∧ i = .int .i64 k ∧ Own w wr w.heap.size (planC A0 A1 A2 A3 d.n0 c0 d.n1 c1 d.n2 c2 d.n3 c3 d.l d.p d.t) ∧ Filling wr g d.n0 k (fun i => d.x0 (i * 4 + 1))) (fun i _ => d.n0 - (intOf i).toNat)
    case atStart => exact ⟨0, Nat.zero_le _, rfl, X3, F3⟩
    case round =>
      clear X3 F3
      obtain ⟨k, hk, rfl, X, F⟩ := hrel
      have hC := X.C
      have hz := X.z
      by_cases hlt : k < d.n0
      · go_wp2_with (go_at_call 139; refine (bandOfPod_any A0 A1 A2 A3 d.n0 c0 d.n1 c1 d.n2 c2 d.n3 c3 d.l d.p d.t d.x0 k _ (S.out.own X) hlt B.out).mono ?_; rintro e w4 ⟨rfl, hb4⟩; have X4 := X.step hb4; have F4 := F.below hb4; obtain ⟨v0, t0, f0⟩ := F4.at_ hlt; clear hb4)
        exact ⟨⟨k + 1, by omega, by go_num, X4.far (p := ⟨g, k, none⟩) (by show w.heap.size ≤ g; omega) (by show g ≠ w.heap.size; omega) _, F4.set hlt⟩, by simp [intOf]; omega⟩
      · obtain rfl : k = d.n0 := by omega
        have HR := Lib.hid (rising_any d g wr HQ.out F.full)
        go_wp2_with fail
        refine HR.out.mono ?_
        rintro e w5 ⟨v', rfl, O5, K5⟩
        have HO := Lib.hid O5
        have HK := Lib.hid K5
        clear O5 K5
        go_wp2_with fail
        go_ret
        exact ⟨_, rfl, ownsRow_base HO.out (by omega), X.K.trans (HK.out.below X.K.size (fun b hb e => by omega))⟩

set_option maxRecDepth 100000 in
set_option maxHeartbeats 2000000 in
theorem specBands_any (v : Value) (d : PlanD) (w : World) (h : IsPlan w w.heap.size v d) (hn : d.n0 ≤ 1048576) :
    Calls Tryz.prog 181 #[v] w (Listed w (bandsL d)) := by
  have P := Lib.hid h
  have HN := Lib.hid hn
  obtain ⟨⟨A0, A1, A2, A3, c0, c1, c2, c3, rfl, s0, s1, s2, s3⟩, b0, b1, b2, b3⟩ := h
  clear s0 s1 s2 s3 b0 b1 b2 b3 hn
  obtain ⟨i0, hi, hz0, hz1, hz2⟩ := info_parts info_i64
  have HI := Lib.hid hi
  have HZ0 := Lib.hid hz0
  have HZ1 := Lib.hid hz1
  have HZ2 := Lib.hid hz2
  clear hi hz0 hz1 hz2
  go_enter Tryz.func181, Tryz.ntmps181
  go_wp2
  have X1 := (Own.box w (planC A0 A1 A2 A3 d.n0 c0 d.n1 c1 d.n2 c2 d.n3 c3 d.l d.p d.t) 29).alloc (.cells #[] 2)
  have O1 := made_emptyI (w.alloc (.cells (planC A0 A1 A2 A3 d.n0 c0 d.n1 c1 d.n2 c2 d.n3 c3 d.l d.p d.t) 29)) (B := w.heap.size + 1) (by simp)
  rw [heap_size_alloc_] at O1
  go_loopw [3, 4] (fun v i wr => ∃ k : Nat, k ≤ 6 ∧ i = .int .i64 k ∧ wr.ownsRow (w.heap.size + 1) 2 1 v (picks k (hasB d)).length ((picks k (hasB d)).map (Value.int .i64)) ∧
    Own w wr w.heap.size (planC A0 A1 A2 A3 d.n0 c0 d.n1 c1 d.n2 c2 d.n3 c3 d.l d.p d.t)) (fun _ i _ => 6 - (intOf i).toNat)
  case atStart => exact ⟨0, Nat.zero_le _, rfl, O1, X1⟩
  case round =>
    clear O1 X1
    obtain ⟨k, hk, rfl, O, X⟩ := hrel
    have HO := Lib.hid O
    clear O
    have hC := X.C
    have hz := X.z
    by_cases hlt : k < 6
    · have hle := picks_le k (hasB d)
      have h63 : (picks k (hasB d)).length + 1 ≤ maxLen := by unfold maxLen; omega
      have hby : ((picks k (hasB d)).length + 1) * 8 ≤ 140737488355328 := by omega
      have H63 := Lib.hid h63
      have HBY := Lib.hid hby
      clear h63 hby hle
      have hp := Lib.hid (specPods_any _ d k _ ((P.out.below X.K (Nat.le_refl _)).more X.K.size) HN.out)
      have hl0 := podsL_le d k
      have hl1 := HN.out
      have hl : (podsL d k).length ≤ 1048576 := by omega
      clear hl0 hl1
      cases hv : hasB d k
      · have HV := Lib.hid (picks_no hv)
        simp only [hasB, decide_eq_false_iff_not] at hv
        go_wp2_with (go_at_call 175; refine hp.out.mono ?_; rintro e w2 ⟨v', rfl, O2, hb2⟩; obtain ⟨A', c', g', rfl, -⟩ := open_list O2; have X2 := X.step hb2)
        refine ⟨⟨k + 1, by omega, by go_num, by rw [HV.out]; exact ownsRow_below HO.out hb2, X2⟩, by simp [intOf]; omega⟩
      · have HV := Lib.hid (picks_yes hv)
        simp only [hasB, decide_eq_true_eq] at hv
        go_wp2_with (first
          | (go_at_call 175; refine hp.out.mono ?_; rintro e w2 ⟨v', rfl, O2, hb2⟩; obtain ⟨A', c', g', rfl, -⟩ := open_list O2; have X2 := X.step hb2; clear O2)
          | (at_builtin; refine wpList_append_own _ rfl _ _ 25 rfl (w.heap.size + 1) 2 i0 (.int .i64 0) 1 8 Tryz.underlying25 HI.out HZ0.out HZ1.out HZ2.out rfl (by decide) _ _ _ rfl ((ownsRow_below HO.out hb2).alloc _) ⟨w2.heap.size, 0, none⟩ 1 1 [.int .i64 k] rfl rfl (cell_one_new _ _ _) (fun x hx => by simp at hx; subst hx; rfl) H63.out HBY.out (by have := X2.z; simp; omega) ?_; intro v' w4 hown' hgrow hnil))
        have X3 := X2.alloc (.cells #[.int .i64 k] 2)
        have OB := (ownsRow_below HO.out hb2)
        refine ⟨⟨k + 1, by omega, by go_num, ?_, ?_⟩, by simp [intOf]; omega⟩
        · rw [HV.out]
          simpa using hown'
        · exact X3.grown hgrow fun g hg => by have := (OB.lt g hg).1; omega
    · obtain rfl : k = 6 := by omega
      go_wp2
      go_ret
      exact ⟨_, rfl, ownsRow_base HO.out (Nat.le_succ _), X.K⟩
end Go.Proofs.YtobpjahjahlhpaaGreatDoor
/- Sf -/
set_option linter.unusedVariables false
namespace Go.Proofs.YtobpjahjahlhpaaGreatDoor
open Go.RowKit

theorem step_le {L : List Int} {b : Int} {k : Nat} (h : ∀ j, j < k → L.getD j 0 ≤ b) (hk : L.getD k 0 ≤ b) : ∀ j, j < k + 1 → L.getD j 0 ≤ b := fun j hj => by
  by_cases e : j = k
  · rw [e]; exact hk
  · exact h j (by omega)
theorem firstOver_hit {L : List Int} {b : Int} {k : Nat} (hk : k < L.length) (h : ∀ j, j < k → L.getD j 0 ≤ b) (hb : b < L.getD k 0) : firstOver L b = L.getD k 0 := by
  rw [getD_at hk] at hb ⊢
  exact firstOver_at hk (fun j hj => by have := h j hj; rwa [getD_at (by omega)] at this) hb
theorem firstOver_miss {L : List Int} {b : Int} (h : ∀ j, j < L.length → L.getD j 0 ≤ b) : firstOver L b = -1 := by
  refine firstOver_none fun x hx => ?_
  obtain ⟨j, hj, rfl⟩ := List.getElem_of_mem hx
  have := h j hj
  rwa [getD_at hj] at this

set_option maxRecDepth 100000 in
set_option maxHeartbeats 2000000 in
theorem implNext_any (v : Value) (d : PlanD) (b : Int) (w : World) (h : IsPlan w w.heap.size v d) :
    Calls Tryz.prog 141 #[v, .int .i64 b] w fun e w' => e = .returned (.int .i64 (nextL d b)) ∧ Below w.heap.size w w' := by
  have P := Lib.hid h
  obtain ⟨⟨A0, A1, A2, A3, c0, c1, c2, c3, rfl, s0, s1, s2, s3⟩, b0, b1, b2, b3⟩ := h
  clear s0 s1 s2 s3 b0 b1 b2 b3
  go_enter Tryz.func141, Tryz.ntmps141
  go_wp2_with fail
  have X1 := Own.box w (planC A0 A1 A2 A3 d.n0 c0 d.n1 c1 d.n2 c2 d.n3 c3 d.l d.p d.t) 29
  refine (implBands_any _ d _ ((P.out.below X1.K (Nat.le_refl _)).more X1.K.size)).mono ?_
  rintro e w2 ⟨v', rfl, O2, hb⟩
  have K2 := Lib.hid (X1.step hb).K
  obtain ⟨A, c, g, rfl, hA, hg, hgl, R⟩ := open_list O2
  have HA := Lib.hid hA
  have hle := bandsL_le d
  have HF := Lib.hid (show ∀ x, firstOver (bandsL d) x = nextL d x from fun _ => rfl)
  clear X1 hb O2 hA hg hgl
  generalize bandsL d = L at *
  have HR := Lib.hid R
  clear R
  go_wp2
  go_loopw [10] (fun i wr => ∃ k : Nat, k ≤ L.length ∧ i = .int .i64 k ∧ wr = w2 ∧ ∀ j, j < k → L.getD j 0 ≤ b) (fun i _ => L.length - (intOf i).toNat)
  case atStart => exact ⟨0, Nat.zero_le _, rfl, rfl, fun j hj => absurd hj (by omega)⟩
  case round =>
    obtain ⟨k, hk, rfl, rfl, hall⟩ := hrel
    have HL := Lib.hid hall
    clear hall
    by_cases hlt : k < L.length
    · obtain rfl := HA.out (by omega)
      obtain ⟨t0, f0⟩ : wr.cell? ⟨g, k, none⟩ = some (.int .i64 (L.getD k 0)) ∧ wr.frozen? ⟨g, k, none⟩ = false := HR.out k hlt
      generalize hx : L.getD k 0 = x at t0
      have HX := Lib.hid hx
      clear hx
      by_cases hb : b < x
      · go_wp2
        go_ret
        exact ⟨ret_int (by rw [← HF.out, firstOver_hit hlt HL.out (by rw [HX.out]; exact hb), HX.out]), K2.out⟩
      · go_wp2
        exact ⟨⟨k + 1, by omega, by go_num, by trivial, step_le HL.out (by rw [HX.out]; omega)⟩, by simp [intOf]; omega⟩
    · obtain rfl : k = L.length := by omega
      go_wp2
      go_ret
      exact ⟨ret_int (by rw [← HF.out, firstOver_miss HL.out]), K2.out⟩

set_option maxRecDepth 100000 in
set_option maxHeartbeats 2000000 in
theorem specNext_any (v : Value) (d : PlanD) (b : Int) (w : World) (h : IsPlan w w.heap.size v d) (hn : d.n0 ≤ 1048576) :
    Calls Tryz.prog 151 #[v, .int .i64 b] w fun e w' => e = .returned (.int .i64 (nextL d b)) ∧ Below w.heap.size w w' := by
  have P := Lib.hid h
  have HN := Lib.hid hn
  obtain ⟨⟨A0, A1, A2, A3, c0, c1, c2, c3, rfl, s0, s1, s2, s3⟩, b0, b1, b2, b3⟩ := h
  clear s0 s1 s2 s3 b0 b1 b2 b3 hn
  go_enter Tryz.func151, Tryz.ntmps151
  go_wp2_with fail
  have X1 := Own.box w (planC A0 A1 A2 A3 d.n0 c0 d.n1 c1 d.n2 c2 d.n3 c3 d.l d.p d.t) 29
  refine (specBands_any _ d _ ((P.out.below X1.K (Nat.le_refl _)).more X1.K.size) HN.out).mono ?_
  rintro e w2 ⟨v', rfl, O2, hb⟩
  have K2 := Lib.hid (X1.step hb).K
  obtain ⟨A, c, g, rfl, hA, hg, hgl, R⟩ := open_list O2
  have HA := Lib.hid hA
  have hle := bandsL_le d
  have HF := Lib.hid (show ∀ x, firstOver (bandsL d) x = nextL d x from fun _ => rfl)
  clear X1 hb O2 hA hg hgl
  generalize bandsL d = L at *
  have HR := Lib.hid R
  clear R
  go_wp2
  go_loopw [6] (fun i wr => ∃ k : Nat, k ≤ L.length ∧ i = .int .i64 k ∧ wr = w2 ∧ ∀ j, j < k → L.getD j 0 ≤ b) (fun i _ => L.length - (intOf i).toNat)
  case atStart => exact ⟨0, Nat.zero_le _, rfl, rfl, fun j hj => absurd hj (by omega)⟩
  case round =>
    obtain ⟨k, hk, rfl, rfl, hall⟩ := hrel
    have HL := Lib.hid hall
    clear hall
    by_cases hlt : k < L.length
    · obtain rfl := HA.out (by omega)
      obtain ⟨t0, f0⟩ : wr.cell? ⟨g, k, none⟩ = some (.int .i64 (L.getD k 0)) ∧ wr.frozen? ⟨g, k, none⟩ = false := HR.out k hlt
      generalize hx : L.getD k 0 = x at t0
      have HX := Lib.hid hx
      clear hx
      by_cases hb : b < x
      · go_wp2
        go_ret
        exact ⟨ret_int (by rw [← HF.out, firstOver_hit hlt HL.out (by rw [HX.out]; exact hb), HX.out]), K2.out⟩
      · go_wp2
        exact ⟨⟨k + 1, by omega, by go_num, by trivial, step_le HL.out (by rw [HX.out]; omega)⟩, by simp [intOf]; omega⟩
    · obtain rfl : k = L.length := by omega
      go_wp2
      go_ret
      exact ⟨ret_int (by rw [← HF.out, firstOver_miss HL.out]), K2.out⟩
end Go.Proofs.YtobpjahjahlhpaaGreatDoor
/- Lw -/
set_option linter.unusedVariables false
namespace Go.Proofs.YtobpjahjahlhpaaGreatDoor
open Go.RowKit

theorem fieldO_any (x : Int) (w : World) :
    Calls Tryz.prog 27 #[.int .i64 x] w fun e w' => e = .returned (.bool (inB x 0 1000000)) ∧ w = w' := by
  go_enter Tryz.func27, Tryz.ntmps27
  go_wp2_with (go_at_call 26; refine (in_any _ _ _ _).mono ?_; rintro e w' ⟨rfl, rfl⟩)
  go_ret
  exact ⟨rfl, rfl⟩
def argsN (k : Int) : Int := if k = 3 ∨ k = 6 ∨ k = 7 ∨ k = 8 ∨ k = 9 ∨ k = 12 ∨ k = 13 then 1 else if k = 10 then 2 else 0
def orderOkB (k a b : Int) : Bool := inB k 1 13 && inB a 0 1000000 && inB b 0 1000000 && !(decide (argsN k < 1) && a != 0 || decide (argsN k < 2) && b != 0) && (k != 13 || decide (a ≤ 1))
abbrev ordC (k a b : Int) : Array Value := #[.int .i64 k, .int .i64 a, .int .i64 b]

set_option maxHeartbeats 4000000 in
theorem l13Args_any (k : Int) (w : World) : Calls Tryz.prog 28 #[.int .i64 k] w fun e w' => e = .returned (.int .i64 (argsN k)) ∧ w = w' := by
  have HH : Hid (argsN k = if k = 3 ∨ k = 6 ∨ k = 7 ∨ k = 8 ∨ k = 9 ∨ k = 12 ∨ k = 13 then 1 else if k = 10 then 2 else 0) := Lib.hid rfl
  by_cases e3 : k = 3
  · subst e3
    go_enter Tryz.func28, Tryz.ntmps28
    go_wp2
    all_goals (go_ret; exact ⟨by rw [HH.out]; rfl, rfl⟩)
  · have E3 := Lib.hid e3
    by_cases e6 : k = 6
    · subst e6
      go_enter Tryz.func28, Tryz.ntmps28
      go_wp2
      all_goals (go_ret; exact ⟨by rw [HH.out]; rfl, rfl⟩)
    · have E6 := Lib.hid e6
      by_cases e7 : k = 7
      · subst e7
        go_enter Tryz.func28, Tryz.ntmps28
        go_wp2
        all_goals (go_ret; exact ⟨by rw [HH.out]; rfl, rfl⟩)
      · have E7 := Lib.hid e7
        by_cases e8 : k = 8
        · subst e8
          go_enter Tryz.func28, Tryz.ntmps28
          go_wp2
          all_goals (go_ret; exact ⟨by rw [HH.out]; rfl, rfl⟩)
        · have E8 := Lib.hid e8
          by_cases e9 : k = 9
          · subst e9
            go_enter Tryz.func28, Tryz.ntmps28
            go_wp2
            all_goals (go_ret; exact ⟨by rw [HH.out]; rfl, rfl⟩)
          · have E9 := Lib.hid e9
            by_cases e12 : k = 12
            · subst e12
              go_enter Tryz.func28, Tryz.ntmps28
              go_wp2
              all_goals (go_ret; exact ⟨by rw [HH.out]; rfl, rfl⟩)
            · have E12 := Lib.hid e12
              by_cases e13 : k = 13
              · subst e13
                go_enter Tryz.func28, Tryz.ntmps28
                go_wp2
                all_goals (go_ret; exact ⟨by rw [HH.out]; rfl, rfl⟩)
              · have E13 := Lib.hid e13
                by_cases e10 : k = 10
                · subst e10
                  go_enter Tryz.func28, Tryz.ntmps28
                  go_wp2
                  all_goals (go_ret; exact ⟨by rw [HH.out]; rfl, rfl⟩)
                · have E10 := Lib.hid e10
                  go_enter Tryz.func28, Tryz.ntmps28
                  go_wp2
                  all_goals (go_ret; exact ⟨by rw [HH.out]; simp [E3.out, E6.out, E7.out, E8.out, E9.out, E12.out, E13.out, E10.out], rfl⟩)
theorem argsN_cases (k : Int) : argsN k = 0 ∨ argsN k = 1 ∨ argsN k = 2 := by
  unfold argsN
  split
  · simp
  · split <;> simp
set_option maxRecDepth 4000 in
set_option maxHeartbeats 8000000 in
theorem orderOk_any (k a b : Int) (w : World) : Calls Tryz.prog 11 #[.agg (ordC k a b)] w fun e w' => e = .returned (.bool (orderOkB k a b)) ∧ Below w.heap.size w w' := by
  obtain ⟨ans, hans⟩ : ∃ ans, orderOkB k a b = ans := ⟨_, rfl⟩
  rw [hans]
  have hn := argsN_cases k
  unfold orderOkB at hans
  generalize hN : argsN k = n at hans hn
  have HN := Lib.hid hN
  have HANS := Lib.hid hans
  clear hans hN
  have K := (Below.refl w.heap.size w).alloc (Nat.le_refl _) (.cells (ordC k a b) 36)
  go_enter Tryz.func11, Tryz.ntmps11
  go_wp2_with fail
  refine (in_any _ _ _ _).mono ?_
  rintro e w1 ⟨rfl, rfl⟩
  cases h1 : inB k 1 13
  · have H1 := Lib.hid h1
    clear h1
    go_wp2
    all_goals (go_ret; exact ⟨ret_bool (by rw [← HANS.out, H1.out]; simp), K⟩)
  · have H1 := Lib.hid h1
    clear h1
    go_wp2_with fail
    refine (fieldO_any _ _).mono ?_
    rintro e w1 ⟨rfl, rfl⟩
    cases h2 : inB a 0 1000000
    · have H2 := Lib.hid h2
      clear h2
      go_wp2
      all_goals (go_ret; exact ⟨ret_bool (by rw [← HANS.out, H2.out]; simp), K⟩)
    · have H2 := Lib.hid h2
      clear h2
      go_wp2_with fail
      refine (fieldO_any _ _).mono ?_
      rintro e w1 ⟨rfl, rfl⟩
      cases h3 : inB b 0 1000000
      · have H3 := Lib.hid h3
        clear h3
        go_wp2
        all_goals (go_ret; exact ⟨ret_bool (by rw [← HANS.out, H3.out]; simp), K⟩)
      · have H3 := Lib.hid h3
        clear h3
        have HANS2 : Hid (ans = (!(decide (n < 1) && a != 0 || decide (n < 2) && b != 0) && (k != 13 || decide (a ≤ 1)))) := Lib.hid (by rw [← HANS.out, H1.out, H2.out, H3.out]; simp)
        clear HANS H1 H2 H3
        go_wp2_with fail
        refine (l13Args_any _ _).mono ?_
        rw [HN.out]
        rintro e w1 ⟨rfl, rfl⟩
        clear HN
        cases h13 : (k != 13)
        all_goals cases ha : (a != 0)
        all_goals cases hb : (b != 0)
        all_goals by_cases hle : a ≤ 1
        all_goals
          have G13 := Lib.hid h13
          have GA := Lib.hid ha
          have GB := Lib.hid hb
          have GL := Lib.hid hle
          rcases hn with rfl | rfl | rfl
        all_goals
          go_wp2
          all_goals (go_ret; exact ⟨ret_bool (by rw [HANS2.out, G13.out, GA.out, GB.out]; have := GL.out; simp; try omega), K⟩)

end Go.Proofs.YtobpjahjahlhpaaGreatDoor
/- Da -/
set_option linter.unusedVariables false
namespace Go.Proofs.YtobpjahjahlhpaaGreatDoor
open Go.RowKit

/-- Block g holds just cs, all writable. -/
structure Blk (w : World) (g : Nat) (cs : Array Value) : Prop where
  z : g < w.heap.size
  C : ∀ o, w.cell? ⟨g, o, none⟩ = cs[o]?
  F : ∀ o, w.frozen? ⟨g, o, none⟩ = false
theorem Blk.new (w : World) (cs : Array Value) (t : TypeId) : Blk (w.alloc (.cells cs t)) w.heap.size cs := ⟨by simp, cell_new w cs t, fun o => frozen_of_row _ _ _ _ _ (heap_alloc_new w _)⟩
theorem Blk.keeps {S : Nat → Prop} {w w' : World} {g : Nat} {cs : Array Value} (h : Blk w g cs) (k : Keeps S w w') (hn : ¬ S g) : Blk w' g cs :=
  ⟨Nat.lt_of_lt_of_le h.z k.size, fun o => (k.cell (p := ⟨g, o, none⟩) h.z hn).trans (h.C o), fun o => (k.frozen (p := ⟨g, o, none⟩) h.z hn).trans (h.F o)⟩
theorem Blk.below {w w' : World} {g : Nat} {cs : Array Value} (h : Blk w g cs) (hb : Below w.heap.size w w') : Blk w' g cs := h.keeps (S := fun _ => False) (Keeps.of_below hb) id
theorem Blk.alloc {w : World} {g : Nat} {cs : Array Value} (h : Blk w g cs) (o : Obj) : Blk (w.alloc o) g cs := h.below ((Below.refl _ _).alloc (Nat.le_refl _) _)
theorem Blk.set {w : World} {g : Nat} {cs : Array Value} (h : Blk w g cs) {i : Nat} (hi : i < cs.size) (v : Value) : Blk (w.setCell ⟨g, i, none⟩ v) g (cs.setIfInBounds i v) :=
  ⟨by simpa [World.setCell] using h.z, fun o => by
    by_cases e : o = i
    · subst e
      rw [World.cell?_setCell_same _ _ _ ((h.C o).trans (Array.getElem?_eq_getElem hi))]
      simp [hi]
    · rw [World.cell?_setCell_other _ _ _ _ (fun he => e (by injection he with _ h2 _; exact h2.symm)), h.C o, Array.getElem?_setIfInBounds_ne (fun he => e he.symm)],
   fun o => by rw [World.frozen?_setCell]; exact h.F o⟩

theorem Keeps.far {S : Nat → Prop} {w w' : World} (h : Keeps S w w') {p : Addr} (hp : w.heap.size ≤ p.block) (v : Value) : Keeps S w (w'.setCell p v) :=
  ⟨h.os, h.tape, h.output, by simpa [World.setCell] using h.size, fun b hb hn => (Below.heap_setCell _ _ _ _ (fun e => by omega)).trans (h.block b hb hn)⟩
theorem Keeps.alloc {S : Nat → Prop} {w w' : World} (h : Keeps S w w') (o : Obj) : Keeps S w (w'.alloc o) := h.trans (Keeps.of_below ((Below.refl _ _).alloc (Nat.le_refl _) o))
theorem Cur.far {T : TypeId} {k : IntKind} {w : World} {g : Nat} (h : Cur T k w g) {p : Addr} (hp : g < p.block) (v : Value) : Cur T k (w.setCell p v) g :=
  h.keeps (S := (· = p.block)) ((Keeps.refl (· = p.block) w).set (p := p) rfl v) (fun b hb e => by have e : b = p.block := e; omega)
theorem Cur.alloc {T : TypeId} {k : IntKind} {w : World} {g : Nat} (h : Cur T k w g) (o : Obj) : Cur T k (w.alloc o) g := h.below ((Below.refl _ _).alloc (Nat.le_refl _) o)

end Go.Proofs.YtobpjahjahlhpaaGreatDoor
/- Dm -/
set_option linter.unusedVariables false
namespace Go.Proofs.YtobpjahjahlhpaaGreatDoor
open Go.RowKit

def noByte : Value → Bool
  | .int .u8 _ => false
  | _ => true
theorem keepsRow_ (W : World) (g : Nat) (cs : Array Value) : Keeps (· = g) W (W.setRow g cs) := ⟨rfl, rfl, rfl, by simp, fun b hb hn => setRow_other W g b cs hn⟩
theorem Cur.row {T T' : TypeId} {k : IntKind} {w : World} {g B : Nat} {cs : Array Value} (h : Cur T k w g) (hb : w.heap[B]? = some (.cells cs T' (0, 0))) (hs : cs.all noByte = true) (hne : ¬ B = g) (cs' : Array Value) : Cur T k (w.setRow B cs') g := by
  have kk := keepsRow_ w B cs'
  have hlt := h.lt
  obtain ⟨A, n, c, i, hh, hg, i0, i1, hm, hB⟩ := h
  refine ⟨A, n, c, i, hh, (kk.block g hlt (by show ¬ g = B; omega)).trans hg, i0, i1, hm, fun hn => ?_⟩
  obtain ⟨b, off, rfl, hbl, hc⟩ := hB hn
  have hbB : ¬ b = B := by
    rintro rfl
    obtain ⟨z, hz, -⟩ := hc 0 hn
    rw [cell_of_row _ _ _ _ _ _ hb] at hz
    have := Array.all_eq_true.1 hs (off + 0) (Array.getElem?_eq_some_iff.1 hz).1
    rw [(Array.getElem?_eq_some_iff.1 hz).2] at this
    simp [noByte] at this
  exact ⟨b, off, rfl, hbl, fun j hj => by
    obtain ⟨z, hz, hr⟩ := hc j hj
    exact ⟨z, (kk.cell (p := ⟨b, off + j, none⟩) (by show b < w.heap.size; omega) hbB).trans hz, hr⟩⟩
/-- A box of the call's own is written whole. -/
theorem belowRow_ {w W : World} (h : Below w.heap.size w W) {B : Nat} (hB : w.heap.size ≤ B) (cs : Array Value) : Below w.heap.size w (W.setRow B cs) :=
  h.trans ((keepsRow_ W B cs).below (B := w.heap.size) h.size (by rintro b hb rfl; omega))
theorem Blk.row {W : World} {g B : Nat} {cs : Array Value} (h : Blk W g cs) (hne : ¬ g = B) (cs' : Array Value) : Blk (W.setRow B cs') g cs := h.keeps (keepsRow_ W B cs') hne
theorem Keeps.grown {S : Nat → Prop} {w w1 w2 : World} (h : Keeps S w w1) {row : Option Nat} (hg : w1.grownBy w2 row) (hr : ∀ r, row = some r → w.heap.size ≤ r) : Keeps S w w2 :=
  ⟨hg.os.trans h.os, hg.tape.trans h.tape, hg.output.trans h.output, Nat.le_trans h.size hg.size, fun b hb hn => (hg.block b (Nat.lt_of_lt_of_le hb h.size) (fun e => by have := hr b e.symm; omega)).trans (h.block b hb hn)⟩
theorem Cur.grown {T : TypeId} {k : IntKind} {w w' : World} {g : Nat} (h : Cur T k w g) {row : Option Nat} (hg : w.grownBy w' row) (hr : ∀ r, row = some r → g < r) : Cur T k w' g :=
  h.keeps (S := fun b => row = some b) ⟨hg.os, hg.tape, hg.output, hg.size, fun b hb hn => hg.block b hb (fun e => hn e.symm)⟩ (fun b hb e => by have := hr b e; omega)
theorem OR.keep {S : Nat → Prop} {w w' : World} {B : Nat} {v : Value} {l : List RecD} (h : OR w B v l) (hk : Keeps S w w') (hS : ∀ r, B ≤ r → ¬ S r) : OR w' B v l := by
  obtain ⟨hl, ho⟩ := h
  refine ⟨hl, ho.imp id ?_⟩
  rintro ⟨g, cap, cur, hv, hb', hh, rest⟩
  exact ⟨g, cap, cur, hv, hb', (hk.block g (Array.getElem?_eq_some_iff.1 hh).1 (hS g hb')).trans hh, rest⟩
end Go.Proofs.YtobpjahjahlhpaaGreatDoor
/- Dk -/
set_option linter.unusedVariables false
namespace Go.Proofs.YtobpjahjahlhpaaGreatDoor
open Go.RowKit

set_option maxRecDepth 100000 in
set_option maxHeartbeats 1000000 in
theorem likeRecs_same (v v' : Value) (l : List RecD) (w : World) (h : Rt w w.heap.size v l) (h' : Rt w w.heap.size v' l) :
    Calls Tryz.prog 9 #[v, v'] w fun e w' => e = .returned (.bool true) ∧ Below w.heap.size w w' := by
  have H := Lib.hid h
  have H' := Lib.hid h'
  obtain ⟨⟨A, c, rfl, -⟩, hl⟩ := h
  obtain ⟨⟨A', c', rfl, -⟩, -⟩ := h'
  have hl' : l.length ≤ 2 ^ 63 - 1 := by unfold maxLen at hl; omega
  clear hl
  generalize hq : l.length = n at *
  have HQ := Lib.hid hq
  clear hq
  go_enter Tryz.func9, Tryz.ntmps9
  go_wp2
  go_loopw [5] (fun i wr => ∃ k : Nat, k ≤ n ∧ i = .int .i64 k ∧ Below w.heap.size w wr) (fun i _ => n - (intOf i).toNat)
  case atStart => exact ⟨0, Nat.zero_le _, rfl, Below.refl _ _⟩
  case round =>
    obtain ⟨k, hk, rfl, K⟩ := hrel
    by_cases hlt : k < n
    · obtain ⟨b, off, rfl, hb, q0, q1, q2⟩ := (H.out.below K (Nat.le_refl _)).cell (i := k) (by rw [HQ.out]; exact hlt)
      obtain ⟨b', off', rfl, hb', r0, r1, r2⟩ := (H'.out.below K (Nat.le_refl _)).cell (i := k) (by rw [HQ.out]; exact hlt)
      generalize recAt l k = r at *
      obtain ⟨rk, ra, rb⟩ := r
      dsimp only at q0 q1 q2 r0 r1 r2
      go_wp2_with fail
      go_quiet (fail)
      go_wp2
      exact ⟨⟨k + 1, by omega, by go_num, below_drewN K _⟩, by simp [intOf]; omega⟩
    · obtain rfl : k = n := by omega
      go_wp2
      go_ret
      exact ⟨rfl, K⟩
end Go.Proofs.YtobpjahjahlhpaaGreatDoor
/- Xb -/
set_option linter.unusedVariables false
namespace Go.Proofs.YtobpjahjahlhpaaGreatDoor
open Go.RowKit Go.Shelf

/-- How the library's numbers go by this program's. -/
def renLk : Ren := ⟨fun k => if k = 49 then 113 else if k = 45 then 115 else if k = 59 then 155 else if k = 60 then 156 else 182,
  fun k => if k = 0 then 0 else if k = 3 then 3 else if k = 4 then 4 else if k = 22 then 25 else if k = 23 then 2 else 158, fun k => k⟩
set_option maxRecDepth 100000 in
theorem lays_search : SlLaysN.n49 Tryz.prog renLk where
  mixed := by kernel_rfl
  f49 := ⟨ "slices.BinarySearch[[]int64,int64]", by decide, by kernel_rfl⟩
  f59 := ⟨ "cmp.Less[int64]", by decide, by kernel_rfl⟩
  f60 := ⟨ "slices.isNaN[int64]", by decide, by kernel_rfl⟩
  f68 := ⟨ "cmp.isNaN[int64]", by decide, by kernel_rfl⟩
  t0 := by kernel_rfl
  a0 := fun _ => by kernel_rfl
  z0 := fun _ => by kernel_rfl
  v0 := fun _ => by kernel_rfl
  t3 := by kernel_rfl
  a3 := fun _ => by kernel_rfl
  z3 := fun _ => by kernel_rfl
  v3 := fun _ => by kernel_rfl
  t4 := by kernel_rfl
  a4 := fun _ => by kernel_rfl
  z4 := fun _ => by kernel_rfl
  v4 := fun _ => by kernel_rfl
  t22 := by kernel_rfl
  a22 := fun _ => by kernel_rfl
  z22 := fun _ => by kernel_rfl
  v22 := fun _ => by kernel_rfl
  t23 := by kernel_rfl
  a23 := fun _ => by kernel_rfl
  z23 := fun _ => by kernel_rfl
  v23 := fun _ => by kernel_rfl
  t51 := by kernel_rfl
  a51 := fun _ => by kernel_rfl
  z51 := fun _ => by kernel_rfl
  v51 := fun _ => by kernel_rfl
set_option maxRecDepth 100000 in
theorem lays_delete : SlLaysN.n45 Tryz.prog renLk where
  mixed := by kernel_rfl
  f45 := ⟨ "slices.Delete[[]int64,int64]", by decide, by kernel_rfl⟩
  t0 := by kernel_rfl
  a0 := fun _ => by kernel_rfl
  z0 := fun _ => by kernel_rfl
  v0 := fun _ => by kernel_rfl
  t3 := by kernel_rfl
  a3 := fun _ => by kernel_rfl
  z3 := fun _ => by kernel_rfl
  v3 := fun _ => by kernel_rfl
  t4 := by kernel_rfl
  a4 := fun _ => by kernel_rfl
  z4 := fun _ => by kernel_rfl
  v4 := fun _ => by kernel_rfl
  t22 := by kernel_rfl
  a22 := fun _ => by kernel_rfl
  z22 := fun _ => by kernel_rfl
  v22 := fun _ => by kernel_rfl
  t23 := by kernel_rfl
  a23 := fun _ => by kernel_rfl
  z23 := fun _ => by kernel_rfl
  v23 := fun _ => by kernel_rfl
  i23 := by kernel_rfl
end Go.Proofs.YtobpjahjahlhpaaGreatDoor
/- Xc -/
set_option linter.unusedVariables false
namespace Go.Proofs.YtobpjahjahlhpaaGreatDoor
open Go.RowKit

/-- A block of so many cells. -/
def Row1 (w : World) (g cap : Nat) : Prop := ∃ cur, w.heap[g]? = some (.cells cur 2) ∧ cur.size = cap
theorem Row1.set {w : World} {g cap : Nat} (h : Row1 w g cap) (b i : Nat) (v : Value) : Row1 (w.setCell ⟨b, i, none⟩ v) g cap := by
  obtain ⟨cur, hc, hs⟩ := h
  by_cases e : g = b
  · subst e
    exact ⟨_, heap_setCell_same w g i cur _ v hc, by simpa using hs⟩
  · exact ⟨cur, (heap_setCell_other w ⟨b, i, none⟩ g v e).trans hc, hs⟩
theorem Row1.sets {g cap : Nat} (b : Nat) : ∀ (vs : List Value) (o : Nat) {w : World}, Row1 w g cap → Row1 (w.setCells b o vs) g cap
  | [], _, _, h => h
  | v :: vs, o, _, h => Row1.sets b vs (o + 1) (h.set b o v)
theorem grown_sets (g : Nat) : ∀ (vs : List Value) (o : Nat) (w : World), Keeps (· = g) w (w.setCells g o vs)
  | [], _, w => Keeps.refl _ w
  | v :: vs, o, w => ((Keeps.refl (· = g) w).set rfl v).trans (grown_sets g vs (o + 1) _)
theorem Keeps.below' {w w1 w2 : World} (h : Keeps (· = w.heap.size) w1 w2) (hb : Below w.heap.size w w1) : Below w.heap.size w w2 := hb.trans (h.below hb.size fun b hlt e => by omega)
theorem Row1.own {w : World} {g cap n B : Nat} {xs : List Value} (h : Row1 w g cap) (hx : ∀ j v, xs[j]? = some v → w.cell? ⟨g, j, none⟩ = some v) (hl : xs.length = n) (hB : B ≤ g) (hn : n ≤ cap) (hm : cap ≤ maxLen) :
    w.ownsRow B 2 1 (.slice (some ⟨g, 0, none⟩) n cap) n xs := by
  obtain ⟨cur, hc, hs⟩ := h
  refine ⟨by omega, .inr ⟨g, cap, cur, rfl, hB, hc, hn, hm, by omega, ?_⟩⟩
  apply List.ext_getElem?
  intro j
  by_cases hj : j < n
  · have h1 := hx j _ (List.getElem?_eq_getElem (show j < xs.length by omega))
    rw [cell_of_row _ _ _ _ _ _ hc] at h1
    rw [List.getElem?_take_of_lt (by omega), Array.getElem?_toList, h1, List.getElem?_eq_getElem (by omega)]
  · rw [List.getElem?_eq_none (by rw [List.length_take]; omega), List.getElem?_eq_none (by omega)]
theorem lkCs_put (l : List Int) (i : Nat) (x : Int) : lkCs (l.take i ++ x :: l.drop i) = (lkCs l).take i ++ .int .i64 x :: (lkCs l).drop i := by simp [lkCs, List.map_take, List.map_drop]
/-- What one put into a list answers. -/
def Puts (w : World) (B : Nat) (v : Value) (l : List Int) (e : Ending) (w' : World) : Prop := ∃ v', e = .returned v' ∧ LkR w' B v' l ∧ Keeps (fun g => v.ownBlock = some g) w w'
theorem Keeps.of_grownX {w w' : World} {v : Value} (h : w.grownBy w' v.ownBlock) : Keeps (fun g => v.ownBlock = some g) w w' := ⟨h.os, h.tape, h.output, h.size, fun b hb hn => h.block b hb fun e => hn e.symm⟩
theorem lk_oneC (l : List Int) : ∀ v ∈ lkCs l, v.oneCell' = true := lkCs_one l

theorem put_len {l : List Int} {x : Int} {i n : Nat} (hi : i ≤ n) (hn : l.length = n) : (l.take i ++ x :: l.drop i).length = n + 1 := by
  simp
  omega
theorem put_cells {W : World} {g i : Nat} {P D : List Value} {y : Value} (hi : P.length = i) (hP : ∀ j u, P[j]? = some u → W.cell? ⟨g, j, none⟩ = some u) (hy : W.cell? ⟨g, i, none⟩ = some y)
    (hD : ∀ j u, D[j]? = some u → W.cell? ⟨g, i + 1 + j, none⟩ = some u) : ∀ j u, (P ++ y :: D)[j]? = some u → W.cell? ⟨g, j, none⟩ = some u := by
  intro j u hj
  by_cases h1 : j < i
  · exact hP j u (by rwa [List.getElem?_append_left (by omega)] at hj)
  · rw [List.getElem?_append_right (by omega), hi] at hj
    by_cases h2 : j = i
    · subst h2
      rw [Nat.sub_self] at hj
      exact hy.trans hj
    · obtain ⟨k, rfl⟩ : ∃ k, j = i + 1 + k := ⟨j - (i + 1), by omega⟩
      rw [show i + 1 + k - i = k + 1 by omega] at hj
      exact hD k u hj

section
variable (l : List Int) (x : Int) (w : World) (B vb : Nat)

set_option maxRecDepth 100000 in
set_option maxHeartbeats 4000000 in
theorem insert_end (v : Value) (hB : B ≤ w.heap.size) (h : LkR w B v l) (hl : l.length ≤ 1048576) (hv : w.heap[vb]? = some (.cells #[.int .i64 x] 2)) :
    Calls Tryz.prog 114 #[v, .int .i64 l.length, .slice (some ⟨vb, 0, none⟩) 1 1] w (Puts w B v (l ++ [x])) := by
  have h0 : LkR w B v l := h
  obtain ⟨A, c, rfl, r0, S0⟩ := open_rowR h
  have hcap : l.length ≤ c ∧ c ≤ maxLen := by
    rcases h0.2 with ⟨e, hn⟩ | ⟨g, cap, cur, e, -, -, h1, h2, -⟩
    · injection e with _ _ e
      unfold maxLen
      omega
    · injection e with _ _ e
      omega
  obtain ⟨h1c, h2c⟩ := hcap
  unfold maxLen at h2c
  obtain ⟨i0, hi0, hz0, hz1, hz2⟩ := info_parts infoS_i64
  have HV := Lib.hid hv
  have H0 := Lib.hid h0
  have HI := Lib.hid hi0
  have HZ0 := Lib.hid hz0
  have HZ1 := Lib.hid hz1
  have HZ2 := Lib.hid hz2
  have HS : Hid (SlV w w.heap.size 1 (some ⟨vb, 0, none⟩) 1 (lkCs [x])) := Lib.hid ⟨rfl, fun _ => ⟨vb, 0, rfl, (Array.getElem?_eq_some_iff.1 hv).1, fun j hj => by
    obtain rfl : j = 0 := by omega
    rw [cell_of_row _ _ _ _ _ _ hv]
    rfl⟩⟩
  clear hi0 hz0 hz1 hz2 hv h h0 S0
  go_enter Tryz.func114, Tryz.ntmps114
  go_wp2_with
    (at_builtin
     refine wpList_append_slv rfl _ _ 25 2 i0 (.int .i64 0) 1 8 rfl Tryz.underlying25 HI.out HZ0.out HZ1.out HZ2.out rfl (by decide) (by decide) B (.slice A l.length _) l.length (lkCs l) rfl H0.out (some ⟨vb, 0, none⟩) 1 1 (lkCs [x]) rfl (fun e => by cases e) HS.out (lkCs_one [x]) (by omega) hB ?_
     intro v' w2 hown hgrow
     have HO := Lib.hid hown
     have HG := Lib.hid hgrow
     clear hown hgrow)
  all_goals
    go_ret
    exact ⟨_, rfl, LkR.push x HO.out, Keeps.of_grownX (by cases A <;> exact HG.out)⟩

set_option maxRecDepth 100000 in
set_option maxHeartbeats 4000000 in
theorem insert_room (g c i : Nat) (hB : B ≤ w.heap.size) (h : LkR w B (.slice (some ⟨g, 0, none⟩) l.length c) l) (hi : i < l.length) (hc : l.length < c) (hne : vb ≠ g) (hv : w.heap[vb]? = some (.cells #[.int .i64 x] 2)) :
    Calls Tryz.prog 114 #[.slice (some ⟨g, 0, none⟩) l.length c, .int .i64 i, .slice (some ⟨vb, 0, none⟩) 1 1] w (Puts w B (.slice (some ⟨g, 0, none⟩) l.length c) (l.take i ++ x :: l.drop i)) := by
  obtain ⟨n, hn⟩ : ∃ n, l.length = n := ⟨_, rfl⟩
  have hcl : (lkCs l).length = n := by rw [lkCs_len]; omega
  have hcs := h.cells (g := g) rfl
  obtain ⟨cur, hcur, hcsz, hcm, hBg⟩ : ∃ cur, w.heap[g]? = some (.cells cur 2) ∧ cur.size = c ∧ c ≤ maxLen ∧ B ≤ g := by
    rcases h.2 with ⟨e, -⟩ | ⟨g', cap, cur, e, hb, hh, -, h2, h3, -⟩
    · cases e
    · injection e with e1 e2 e3
      injection e1 with e1
      injection e1 with e1 _ _
      subst e1 e3
      exact ⟨cur, hh, by omega, h2, hb⟩
  have HR : Hid (Row1 w g c) := Lib.hid ⟨cur, hcur, hcsz⟩
  have hfz : ∀ o, w.frozen? ⟨g, o, none⟩ = false := fun o => by simp [World.frozen?, hcur]
  have hsome : ∀ k, k < c → (w.cell? ⟨g, k, none⟩).isSome = true := fun k hk => by
    rw [cell_of_row _ _ _ _ _ _ hcur, Array.getElem?_eq_getElem (by omega)]
    rfl
  have hcells : ∀ j u, (lkCs l)[j]? = some u → w.cell? ⟨g, j, none⟩ = some u := fun j u hu => by
    have := hcs j u hu
    rwa [add_zero_block] at this
  have hvc : w.cell? ⟨vb, 0, none⟩ = some (.int .i64 x) := by rw [cell_of_row _ _ _ _ _ _ hv]; rfl
  have hsz : (Tryz.prog.info? 2).map (·.size) = some 1 := by kernel_rfl
  have hOV : ∀ lb cb, (callFunc 157 #[.slice (some ⟨vb, 0, none⟩) 1 1, .slice (some ⟨g, i + 1, none⟩) lb cb]).run Tryz.prog w = .ok (.value (.bool false)) w := fun lb cb => by
    rw [run_callFunc_extern Tryz.func157 (by kernel_rfl) (by kernel_rfl) (by kernel_rfl) (e := Extern.SlicesOverlaps.overlaps #[25, 25] #[4]) (by kernel_rfl),
      Lib.run_overlaps_apart w 25 4 2 (by kernel_rfl) 1 (fun _ => by kernel_rfl) ⟨vb, 0, none⟩ ⟨g, i + 1, none⟩ 1 1 lb cb hne 2 2 1 c (by simp [World.shape?, hv]) (by simp [World.shape?, hcur, hcsz]) (by omega) (by simp [World.frozen?, hv]) (by simp [World.frozen?, hv])]
    rfl
  obtain ⟨D, hD⟩ : ∃ D, (lkCs l).drop i = D := ⟨_, rfl⟩
  have hdl : D.length = n - i := by rw [← hD, List.length_drop, hcl]
  have hDc : ∀ j u, D[j]? = some u → w.cell? ⟨g, i + j, none⟩ = some u := fun j u hu => hcells _ _ (by rwa [← hD, List.getElem?_drop] at hu)
  have hD1 : ∀ u ∈ D, u.oneCell' = true := fun u hu => lk_oneC l u (List.mem_of_mem_drop (hD ▸ hu))
  have hcp1 : ∀ ty dc sc, (Builtin.copy_ #[25, 25] ty #[.slice (some ⟨g, i + 1, none⟩) (n - i) dc, .slice (some ⟨g, i, none⟩) (n + 1 - i) sc]).run Tryz.prog w.drew = .ok (goInt D.length) (w.drew.setCells g (i + 1) D) := fun ty dc sc =>
    run_copy_cells w.drew _ _ ty 2 g (i + 1) (n - i) dc ⟨g, i, none⟩ (n + 1 - i) sc D (by kernel_rfl) hsz (by rw [hdl]; simp only [Nat.min_def]; split <;> omega)
      (fun j u hj => by rw [Addr.add_lit]; exact hDc j u hj) (fun j hj => hsome _ (by omega)) (fun j hj => hfz _) hD1
  obtain ⟨W1, hW1⟩ : ∃ W1, W1 = w.drew.setCells g (i + 1) D := ⟨_, rfl⟩
  rw [← hW1] at hcp1
  have hs1 : ∀ k, k < c → (W1.cell? ⟨g, k, none⟩).isSome = true := fun k hk => by
    rw [hW1]
    exact isSome_setCells g D (i + 1) w.drew (fun j hj => hsome _ (by omega)) k (hsome k hk)
  have hcp2 : ∀ (W : World), (∀ x, W.cell? x = W1.cell? x) → (∀ x, W.frozen? x = W1.frozen? x) → ∀ ty dc, (Builtin.copy_ #[25, 25] ty #[.slice (some ⟨g, i, none⟩) (n + 1 - i) dc, .slice (some ⟨vb, 0, none⟩) 1 1]).run Tryz.prog W = .ok (goInt [Value.int .i64 x].length) (W.setCells g i [.int .i64 x]) := fun W hWc hWf ty dc =>
    run_copy_cells W _ _ ty 2 g i (n + 1 - i) dc ⟨vb, 0, none⟩ 1 1 [.int .i64 x] (by kernel_rfl) hsz (by simp only [Nat.min_def, List.length_singleton]; split <;> omega)
      (fun j u hj => by
        have hj0 : j = 0 := by have := (List.getElem?_eq_some_iff.1 hj).1; simpa using this
        subst hj0
        rw [Addr.add_lit, hWc, hW1, World.cell?_setCells_out g _ _ _ _ (fun h _ => absurd h hne)]
        exact hvc.trans hj)
      (fun j hj => by rw [hWc]; exact hs1 _ (by simp at hj; omega)) (fun j hj => by rw [hWf, hW1, World.frozen?_setCells]; exact hfz _) (fun u hu => by simp at hu; subst hu; rfl)
  have hl1 : ¬ ((i : Int) = (n : Int)) := by omega
  have hw1 : IntKind.i64.wrap ((i : Int) + 1) = (i : Int) + 1 := by rw [IntKind.wrap_i64]; unfold maxLen at hcm; omega
  have hw2 : IntKind.i64.wrap ((n : Int) + 1) = (n : Int) + 1 := by rw [IntKind.wrap_i64]; unfold maxLen at hcm; omega
  unfold maxLen at hcm
  rw [hn]
  have mixed : Tryz.prog.follows .mixedOrders = true := by kernel_rfl
  have hb1 : (0 : Int) ≤ (i : Int) + 1 := by omega
  have htn : ((i : Int) + 1).toNat = i + 1 := by omega
  have hb2 : ¬ (c = i + 1) := by omega
  have hb3 : (i : Int) + 1 ≤ (n : Int) + 1 := by omega
  have hb5 : (i : Int) ≤ (n : Int) + 1 := by omega
  have hb4 : ¬ (c = i) := by omega
  have hin : i < n := by omega
  have hnc : n < c := by omega
  have HN := Lib.hid hn
  have H0 := Lib.hid h
  clear h hn hcs hi hc hcur
  go_enter Tryz.func114, Tryz.ntmps114
  go_wp2_with (simp only [hOV])
  go_region_law_o (refine step_copy_runI rfl _ _ 25 25 rfl _ _ (by simp [Act.eval, Act.put]) (by simp [Act.eval, Act.put]) (hcp1 _ _ _) ?_)
  go_wp2_with
    (at_builtin
     refine wpList_copy_runI _ rfl _ _ 25 25 rfl _ _ rfl rfl (hcp2 _ (fun _ => rfl) (fun _ => rfl) _ _) ?_)
  go_ret
  have kp := (Keeps.of_below (S := (· = g)) (Below.refl w.heap.size w).drew).trans ((grown_sets g D (i + 1) w.drew).trans (grown_sets g [.int .i64 x] i _))
  refine ⟨.slice (some ⟨g, 0, none⟩) (n + 1) c, rfl, ?_, ?_⟩
  · unfold LkR
    rw [put_len (Nat.le_of_lt hin) HN.out, lkCs_put, hD]
    refine Row1.own (((show Row1 w.drew g c from HR.out).sets g D (i + 1)).sets g [.int .i64 x] i) (put_cells (i := i) (by rw [List.length_take, hcl]; omega) ?_ ?_ ?_) (by simp [hdl, hcl] <;> omega) hBg (by omega) (by unfold maxLen; omega)
    · intro j u hj
      have hj1 : j < i := by have := (List.getElem?_eq_some_iff.1 hj).1; rw [List.length_take] at this; omega
      rw [World.cell?_setCells_out g _ _ _ _ (fun _ _ => Or.inl hj1), World.cell?_setCells_out g _ _ _ _ (fun _ _ => Or.inl (show j < i + 1 by omega))]
      exact hcells j u (by rwa [List.getElem?_take_of_lt hj1] at hj)
    · have := World.cell?_setCells_in g [.int .i64 x] i (w.drew.setCells g (i + 1) D) (fun j hj => by rw [← hW1]; exact hs1 _ (by simp at hj; omega)) 0 (by simp)
      simpa using this
    · intro j u hj
      have hj1 := (List.getElem?_eq_some_iff.1 hj).1
      rw [World.cell?_setCells_out g _ _ _ _ (fun _ _ => Or.inr (show i + 1 ≤ i + 1 + j by omega)), World.cell?_setCells_in g D (i + 1) w.drew (fun j hj => hsome _ (by omega)) j hj1]
      rw [← hj, List.getElem?_eq_getElem hj1]
  · refine kp.mono fun b hb => ?_
    subst hb
    rfl

set_option maxRecDepth 100000 in
set_option maxHeartbeats 4000000 in
theorem insert_grow (g c i : Nat) (hB : B ≤ w.heap.size) (h : LkR w B (.slice (some ⟨g, 0, none⟩) l.length c) l) (hi : i < l.length) (hlc : l.length ≤ c) (hc : c < l.length + 1) (hl : l.length ≤ 1048576) (hv : w.heap[vb]? = some (.cells #[.int .i64 x] 2)) :
    Calls Tryz.prog 114 #[.slice (some ⟨g, 0, none⟩) l.length c, .int .i64 i, .slice (some ⟨vb, 0, none⟩) 1 1] w (Puts w B (.slice (some ⟨g, 0, none⟩) l.length c) (l.take i ++ x :: l.drop i)) := by
  obtain ⟨n, hn⟩ : ∃ n, l.length = n := ⟨_, rfl⟩
  have hcl : (lkCs l).length = n := by rw [lkCs_len]; omega
  have hcs := h.cells (g := g) rfl
  have hcells : ∀ j u, (lkCs l)[j]? = some u → w.cell? ⟨g, j, none⟩ = some u := fun j u hu => by
    have := hcs j u hu
    rwa [add_zero_block] at this
  have hg : g < w.heap.size := (h.lt rfl).2
  have hvl : vb < w.heap.size := (Array.getElem?_eq_some_iff.1 hv).1
  have hvc : w.cell? ⟨vb, 0, none⟩ = some (.int .i64 x) := by rw [cell_of_row _ _ _ _ _ _ hv]; rfl
  have hsz : (Tryz.prog.info? 2).map (·.size) = some 1 := by kernel_rfl
  obtain ⟨i0, hi0, hz0, hz1, hz2⟩ := info_parts infoS_i64
  have hk : n + 1 - i + i = n + 1 := by omega
  have hkk : (n : Int) + 1 - (i : Int) = ((n + 1 - i : Nat) : Int) := by omega
  have hold : (Builtin.firstCells i0.size i (.slice (some ⟨g, 0, none⟩) i c)).run Tryz.prog w.drew = .ok ((lkCs l).take i).toArray w.drew := by
    rw [hz1]
    refine run_firstCells_some w.drew 1 i ⟨g, 0, none⟩ i c ((lkCs l).take i) (by rw [List.length_take]; omega) (fun j u hj => ?_)
    rw [add_zero_block]
    have hj1 : j < i := by have := (List.getElem?_eq_some_iff.1 hj).1; rw [List.length_take] at this; omega
    exact hcells j u (by rwa [List.getElem?_take_of_lt hj1] at hj)
  obtain ⟨G, hG⟩ : ∃ G, G = grownCap w (n + 1) c 2 := ⟨_, rfl⟩
  obtain ⟨R, hR⟩ : ∃ R : Array Value, R = ((lkCs l).take i).toArray ++ Builtin.zeroCells (Value.int .i64 0).cells (n + 1 - i) ++ Builtin.zeroCells (Value.int .i64 0).cells (G - (n + 1)) := ⟨_, rfl⟩
  have hrz : ∀ ty, (Builtin.append_ #[25, 3] ty #[.slice (some ⟨g, 0, none⟩) i c, .int .i64 ((n : Int) + 1 - (i : Int))]).run Tryz.prog w = .ok (.slice (some ⟨w.heap.size, 0, none⟩) (n + 1) G) (w.drew.alloc (.cells R 2)) := fun ty => by
    have h := Lib.run_append_grow_zeros w 25 3 ty 2 i0 _ .i64 .i64 (by kernel_rfl) (by kernel_rfl) hi0 hz0 (some ⟨g, 0, none⟩) i c ((lkCs l).take i) hold (n + 1 - i) (by omega) (by omega) (by omega) (by omega) (by rw [hz2]; omega) (by rw [hz2, show i + (n + 1 - i) = n + 1 by omega]; exact growslice_fits (by omega) (by omega))
    rw [show i + (n + 1 - i) = n + 1 by omega, ← hG, ← hR] at h
    rw [hkk]
    exact h
  have hGn : n + 1 ≤ G := by rw [hG]; exact grownCap_ge w _ _ _
  have hGm : G ≤ maxLen := by rw [hG]; exact grownCap_le_maxLen w (n + 1) c _ (by unfold maxLen; omega)
  have hRs : R.size = G := by
    rw [hR]
    simp [Builtin.zeroCells, Value.cells, hcl]
    omega
  obtain ⟨W1, hW1⟩ : ∃ W1, W1 = w.drew.alloc (.cells R 2) := ⟨_, rfl⟩
  rw [← hW1] at hrz
  have hR1 : W1.heap[w.heap.size]? = some (.cells R 2) := by rw [hW1]; exact heap_alloc_new w.drew _
  have hs1 : ∀ k, k < G → (W1.cell? ⟨w.heap.size, k, none⟩).isSome = true := fun k hk => by
    rw [cell_of_row _ _ _ _ _ _ hR1, Array.getElem?_eq_getElem (by omega)]
    rfl
  have hf1 : ∀ k, W1.frozen? ⟨w.heap.size, k, none⟩ = false := fun k => by simp [World.frozen?, hR1]
  have hb1 : Below w.heap.size w W1 := by rw [hW1]; exact (Below.refl w.heap.size w).drew.alloc (Nat.le_refl _) _
  have hP1 : ∀ j u, ((lkCs l).take i)[j]? = some u → W1.cell? ⟨w.heap.size, j, none⟩ = some u := fun j u hj => by
    have hj1 := (List.getElem?_eq_some_iff.1 hj).1
    rw [cell_of_row _ _ _ _ _ _ hR1, hR, Array.append_assoc, Array.getElem?_append_left (by simpa using hj1)]
    simpa using hj
  obtain ⟨D, hD⟩ : ∃ D, (lkCs l).drop i = D := ⟨_, rfl⟩
  have hdl : D.length = n - i := by rw [← hD, List.length_drop, hcl]
  have hDc : ∀ j u, D[j]? = some u → W1.cell? ⟨g, i + j, none⟩ = some u := fun j u hu => by
    rw [hb1.cell hg]
    exact hcells _ _ (by rwa [← hD, List.getElem?_drop] at hu)
  have hD1 : ∀ u ∈ D, u.oneCell' = true := fun u hu => lk_oneC l u (List.mem_of_mem_drop (hD ▸ hu))
  have hv1 : W1.cell? ⟨vb, 0, none⟩ = some (.int .i64 x) := (hb1.cell hvl).trans hvc
  have hgN : g ≠ w.heap.size := by omega
  have hcpA : ∀ ty dc, (Builtin.copy_ #[25, 25] ty #[.slice (some ⟨w.heap.size, i, none⟩) (n + 1 - i) dc, .slice (some ⟨vb, 0, none⟩) 1 1]).run Tryz.prog W1 = .ok (goInt [Value.int .i64 x].length) (W1.setCells w.heap.size i [.int .i64 x]) := fun ty dc =>
    run_copy_cells W1 _ _ ty 2 w.heap.size i (n + 1 - i) dc ⟨vb, 0, none⟩ 1 1 [.int .i64 x] (by kernel_rfl) hsz (by simp only [Nat.min_def, List.length_singleton]; split <;> omega)
      (fun j u hj => by
        have hj0 : j = 0 := by have := (List.getElem?_eq_some_iff.1 hj).1; simpa using this
        subst hj0
        rw [Addr.add_lit]
        exact hv1.trans hj)
      (fun j hj => hs1 _ (by simp at hj; omega)) (fun j hj => hf1 _) (fun u hu => by simp at hu; subst hu; rfl)
  obtain ⟨W2, hW2⟩ : ∃ W2, W2 = W1.setCells w.heap.size i [.int .i64 x] := ⟨_, rfl⟩
  rw [← hW2] at hcpA
  have hs2 : ∀ k, k < G → (W2.cell? ⟨w.heap.size, k, none⟩).isSome = true := fun k hk => by
    rw [hW2]
    exact isSome_setCells w.heap.size _ i W1 (fun j hj => hs1 _ (by simp at hj; omega)) k (hs1 k hk)
  have hcpB : ∀ ty dc sc, (Builtin.copy_ #[25, 25] ty #[.slice (some ⟨w.heap.size, i + 1, none⟩) (n - i) dc, .slice (some ⟨g, i, none⟩) (n - i) sc]).run Tryz.prog W2.drew = .ok (goInt D.length) (W2.drew.setCells w.heap.size (i + 1) D) := fun ty dc sc =>
    run_copy_cells W2.drew _ _ ty 2 w.heap.size (i + 1) (n - i) dc ⟨g, i, none⟩ (n - i) sc D (by kernel_rfl) hsz (by rw [hdl]; simp only [Nat.min_def]; split <;> omega)
      (fun j u hj => by
        rw [Addr.add_lit]
        refine Eq.trans ?_ (hDc j u hj)
        show W2.cell? _ = _
        rw [hW2]
        exact World.cell?_setCells_out _ _ _ _ _ (fun h _ => absurd h hgN))
      (fun j hj => hs2 _ (by omega)) (fun j hj => by show W2.frozen? _ = _; rw [hW2, World.frozen?_setCells]; exact hf1 _) hD1
  have hl1 : ¬ ((i : Int) = (n : Int)) := by omega
  have hw1 : IntKind.i64.wrap ((i : Int) + 1) = (i : Int) + 1 := by rw [IntKind.wrap_i64]; omega
  have hw2 : IntKind.i64.wrap ((n : Int) + 1) = (n : Int) + 1 := by rw [IntKind.wrap_i64]; omega
  have hz3 : (c : Int) < (n : Int) + 1 := by omega
  have hin : i < n := by omega
  have hin2 : i ≤ n := by omega
  have hic : i ≤ c := by omega
  have hz4 : (0 : Int) ≤ (i : Int) + 1 := by omega
  have htn : ((i : Int) + 1).toNat = i + 1 := by omega
  have hG2 : ¬ (G = i + 1) := by omega
  have hG3 : ¬ (G = i) := by omega
  have hci : ¬ (c = i) := by omega
  have hb3 : (i : Int) + 1 ≤ (n : Int) + 1 := by omega
  have hb5 : (i : Int) ≤ (n : Int) + 1 := by omega
  unfold maxLen at hGm
  rw [hn]
  have mixed : Tryz.prog.follows .mixedOrders = true := by kernel_rfl
  have HN := Lib.hid hn
  have HP1 := Lib.hid hP1
  have HR1 := Lib.hid hR1
  have HR2 := Lib.hid hR
  have HW1 := Lib.hid hW1
  have HW2 := Lib.hid hW2
  clear h hn hcs hlc hi hold hR hR1 hP1 hG hkk hk hW1 hW2
  go_enter Tryz.func114, Tryz.ntmps114
  go_wp2_with (first
    | (at_builtin
       refine Lib.wpList_append_run _ rfl _ _ _ _ rfl _ _ rfl rfl _ _ (hrz _) ?_)
    | (at_builtin
       refine wpList_copy_runI _ rfl _ _ 25 25 rfl _ _ rfl rfl (hcpA _ _) ?_))
  all_goals
    go_region_law_o (refine step_copy_runI rfl _ _ 25 25 rfl _ _ (by simp [Act.eval, Act.put]) (by simp [Act.eval, Act.put]) (hcpB _ _ _) ?_)
    go_wp2
    go_ret
    refine ⟨.slice (some ⟨w.heap.size, 0, none⟩) (n + 1) G, rfl, ?_, ?_⟩
    · unfold LkR
      rw [put_len hin2 HN.out, lkCs_put, hD]
      have hr : Row1 W2 w.heap.size G := by rw [HW2.out]; exact Row1.sets _ _ _ ⟨R, HR1.out, hRs⟩
      refine Row1.own ((show Row1 W2.drew w.heap.size G from hr).sets w.heap.size D (i + 1)) (put_cells (i := i) (by rw [List.length_take, hcl]; omega) ?_ ?_ ?_) (by simp [hdl, hcl] <;> omega) hB hGn (by unfold maxLen; omega)
      · intro j u hj
        have hj1 : j < i := by have := (List.getElem?_eq_some_iff.1 hj).1; rw [List.length_take] at this; omega
        rw [World.cell?_setCells_out _ _ _ _ _ (fun _ _ => Or.inl (show j < i + 1 by omega))]
        show W2.cell? _ = _
        rw [HW2.out, World.cell?_setCells_out _ _ _ _ _ (fun _ _ => Or.inl hj1)]
        exact HP1.out j u hj
      · rw [World.cell?_setCells_out _ _ _ _ _ (fun _ _ => Or.inl (show i < i + 1 by omega))]
        show W2.cell? _ = _
        rw [HW2.out]
        have := World.cell?_setCells_in w.heap.size [.int .i64 x] i W1 (fun j hj => hs1 _ (by simp at hj; omega)) 0 (by simp)
        simpa using this
      · intro j u hj
        have hj1 := (List.getElem?_eq_some_iff.1 hj).1
        rw [World.cell?_setCells_in w.heap.size D (i + 1) W2.drew (fun j hj => hs2 _ (by omega)) j hj1]
        rw [← hj, List.getElem?_eq_getElem hj1]
    · have h2 : Below w.heap.size w W2 := by rw [HW2.out]; exact (grown_sets w.heap.size _ i W1).below' hb1
      exact Keeps.of_below ((grown_sets w.heap.size D (i + 1) W2.drew).below' h2.drew)
end
end Go.Proofs.YtobpjahjahlhpaaGreatDoor
