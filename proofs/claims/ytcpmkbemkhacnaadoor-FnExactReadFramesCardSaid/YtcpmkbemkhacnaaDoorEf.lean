/-
  The laws' marks in lists of lists.
-/
import Derived.Test.YtcpmkbemkhacnaaDoorEe
set_option linter.unusedVariables false
namespace Go.Proofs.YtcpmkbemkhacnaaDoor
open Go.RowKit

/-- How many records there are in all the lists. -/
def total (ls : List (List RecD)) : Nat := (ls.map List.length).sum
theorem total_take {ls : List (List RecD)} {m : Nat} (hm : m < ls.length) : total (ls.take (m + 1)) = total (ls.take m) + (listAt ls m).length := by
  rw [List.take_succ_eq_append_getElem hm]
  unfold total
  rw [List.map_append, List.sum_append]
  simp only [listAt, List.getD, List.map_cons, List.map_nil, List.sum_cons, List.sum_nil, Nat.add_zero]
  rw [List.getElem?_eq_getElem hm]
  rfl
theorem total_le {ls : List (List RecD)} (m : Nat) : total (ls.take m) ≤ total ls := by
  have : ls = ls.take m ++ ls.drop m := (List.take_append_drop m ls).symm
  have h : total ls = total (ls.take m) + total (ls.drop m) := by
    conv => lhs; rw [this]
    simp only [total, List.map_append, List.sum_append]
  omega
/-- The lists hold marks, from k0 on. -/
def Marks (w : World) (v : Value) (ls : List (List RecD)) (k0 : Int) : Prop :=
  ∃ A c g, v = .slice A ls.length c ∧ (0 < ls.length → A = some ⟨g, 0, none⟩) ∧ (0 < ls.length → g < w.heap.size) ∧
    ∀ i, i < ls.length → ∃ A' c' g', w.cell? ⟨g, i, none⟩ = some (.slice A' (listAt ls i).length c') ∧ (0 < (listAt ls i).length → A' = some ⟨g', 0, none⟩) ∧ (0 < (listAt ls i).length → g' < w.heap.size) ∧
      RowF w g' ((listAt ls i).length * 3) (fun j => k0 + 3 * total (ls.take i) + j)
theorem Marks.go {w w' : World} {v : Value} {ls : List (List RecD)} {k0 : Int} (h : Marks w v ls k0) (hb : Below w.heap.size w w') : Marks w' v ls k0 := by
  obtain ⟨A, c, g, rfl, hA, hg, h⟩ := h
  refine ⟨A, c, g, rfl, hA, fun h0 => Nat.lt_of_lt_of_le (hg h0) hb.size, fun i hi => ?_⟩
  obtain ⟨A', c', g', h1, h2, h3, h4⟩ := h i hi
  exact ⟨A', c', g', (hb.cell (p := ⟨g, i, none⟩) (hg (by omega))).trans h1, h2, fun h0 => Nat.lt_of_lt_of_le (h3 h0) hb.size, h4.go (fun h0 => h3 (by omega)) hb⟩
theorem Keeps.none {S : Nat → Prop} {w w' : World} {g : Nat} (k : Keeps (· = g) w w') (hg : w.heap.size ≤ g) : Keeps S w w' :=
  ⟨k.os, k.tape, k.output, k.size, fun b hb _ => k.block b hb (fun e => by omega)⟩
/-- Which blocks hold the first m lists. -/
def Hold (vs : List Value) (m b : Nat) : Prop := ∃ (i : Nat) (u : Value), i < m ∧ vs[i]? = some u ∧ u.ownBlock = some b

set_option maxRecDepth 100000 in
set_option maxHeartbeats 2000000 in
theorem markRecSS_any (v : Value) (ls : List (List RecD)) (k0 : Int) (B : Nat) (w : World) (h : OS w B v ls) (h0 : 0 ≤ k0) (h1 : k0 + 3 * total ls ≤ 8388608) (hn : ls.length ≤ 1048576) (hs : ∀ i, i < ls.length → (listAt ls i).length ≤ 1048576) :
    Calls Tryd.prog 31 #[v, .int .i64 k0] w fun e w' => e = .returned (.int .i64 (k0 + 3 * total ls)) ∧ Marks w' v ls k0 ∧ Keeps (fun b => B ≤ b) w w' := by
  obtain ⟨A, c, g, vs, rfl, hA, hB, hg, SG, hC, hne⟩ := h.open_
  have HA := Lib.hid hA
  have HG := Lib.hid hg
  have HSG := Lib.hid SG
  have HC := Lib.hid hC
  have HNE := Lib.hid hne
  have HS := Lib.hid hs
  clear hA hg SG hC hne h hs
  generalize hq : ls.length = n at *
  have HQ := Lib.hid hq
  clear hq
  go_enter Tryd.func31, Tryd.ntmps31
  go_wp2
  go_loopw [1, 5] (fun kk i wr => ∃ m : Nat, m ≤ n ∧ i = .int .i64 m ∧ kk = .int .i64 (k0 + 3 * total (ls.take m)) ∧ Keeps (Hold vs m) w wr ∧
    (∀ i, i < m → ∃ A' c' g', vs[i]? = some (.slice A' (listAt ls i).length c') ∧ (0 < (listAt ls i).length → A' = some ⟨g', 0, none⟩) ∧ (0 < (listAt ls i).length → g' < w.heap.size) ∧ RowF wr g' ((listAt ls i).length * 3) (fun j => k0 + 3 * total (ls.take i) + j))) (fun _ i _ => n - (intOf i).toNat)
  case atStart => exact ⟨0, Nat.zero_le _, rfl, by simp [total], Keeps.refl _ _, fun i hi => absurd hi (by omega)⟩
  case round =>
    obtain ⟨m, hm, rfl, rfl, K, D⟩ := hrel
    have HD := Lib.hid D
    have HK := Lib.hid K
    clear D K
    by_cases hlt : m < n
    · obtain ⟨u, hu, ho⟩ := HSG.out.at_ (i := m) (by rw [HQ.out]; exact hlt)
      have hgw := HG.out (by omega)
      have qc : wr.cell? ⟨g, m, none⟩ = some u := (HK.out.cell (p := ⟨g, m, none⟩) hgw (fun ⟨i, x, _, hi, hx⟩ => HNE.out i x g hi hx rfl)).trans (HC.out m u hu).1
      have HU := Lib.hid hu
      obtain ⟨A2, c2, g2, rfl, hA2, hB2, hg2, R2⟩ := ho.open_
      obtain rfl := HA.out (by omega)
      have hlen := HS.out m hlt
      have htk := Lib.hid (total_take (ls := ls) (m := m) (by rw [HQ.out]; exact hlt))
      have htl := total_le (ls := ls) (m + 1)
      rw [htk.out] at htl
      have hex : ∃ g3, (0 < (listAt ls m).length → A2 = some ⟨g3, 0, none⟩) ∧ (0 < (listAt ls m).length → g3 < w.heap.size) ∧ ((listAt ls m).length = 0 → g3 = wr.heap.size) ∧ RowF wr g3 ((listAt ls m).length * 3) (cellR (listAt ls m)) := by
        by_cases e : (listAt ls m).length = 0
        · exact ⟨wr.heap.size, fun h => by omega, fun h => by omega, fun _ => rfl, fun j hj => by omega⟩
        · refine ⟨g2, hA2, hg2, fun h => absurd h e, R2.goK (fun h => hg2 (by omega)) HK.out (fun _ => ?_)⟩
          rintro ⟨i, x, hi, hx, hr⟩
          have : g2 < g2 := HSG.out.apart hi hx HU.out hr (by rw [hA2 (by omega)]; rfl)
          omega
      obtain ⟨g3, hA3, hg3, hz3, R3⟩ := hex
      have HA3 := Lib.hid hA3
      have HG3 := Lib.hid hg3
      have HZ3 := Lib.hid hz3
      have HR3 := Lib.hid R3
      clear R2 hA2 hg2 ho hA3 hg3 hz3 R3 hu
      generalize hll : (listAt ls m).length = len at *
      have HLL := Lib.hid hll
      generalize htm : total (ls.take m) = tm at *
      have HTM := Lib.hid htm
      clear hll htm
      go_wp2_with fail
      refine (markRecS_any A2 len c2 g3 (k0 + 3 * tm) (cellR (listAt ls m)) wr HA3.out HR3.out hlen (by omega) (by omega)).mono ?_
      rintro e w2 ⟨rfl, R4, k4⟩
      have HR4 := Lib.hid R4
      have HK4 := Lib.hid k4
      clear R4 k4
      go_wp2
      refine ⟨⟨m + 1, by omega, by go_num, int_eq (by rw [htk.out]; omega), ?_, ?_⟩, by simp [intOf]; omega⟩
      · refine (HK.out.mono fun b hb => ?_).trans ?_
        · obtain ⟨i, x, hi, hx, hr⟩ := hb
          exact ⟨i, x, by omega, hx, hr⟩
        · by_cases e : len = 0
          · exact HK4.out.none (by rw [HZ3.out e]; exact Nat.le_refl _)
          · refine HK4.out.mono fun b hb => ⟨m, _, by omega, HU.out, ?_⟩
            subst hb
            rw [HA3.out (by omega)]
            rfl
      · intro i hi
        by_cases e : i = m
        · subst e
          exact ⟨A2, c2, g3, by rw [HLL.out]; exact HU.out, by rw [HLL.out]; exact HA3.out, by rw [HLL.out]; exact HG3.out, by rw [HLL.out, HTM.out]; exact HR4.out⟩
        · obtain ⟨A', c', g', d1, d2, d3, d4⟩ := HD.out i (by omega)
          refine ⟨A', c', g', d1, d2, d3, d4.goK (fun h => Nat.lt_of_lt_of_le (d3 (by omega)) HK.out.size) HK4.out (fun h e3 => ?_)⟩
          subst e3
          have hd3 := d3 (by omega)
          by_cases e0 : len = 0
          · have := HZ3.out e0
            have := HK.out.size
            omega
          · have := HSG.out.apart (i := i) (j := m) (by omega) d1 HU.out (by rw [d2 (by omega)]; rfl) (by rw [HA3.out (by omega)]; rfl)
            omega
    · obtain rfl : m = n := by omega
      have e1 := Lib.hid (show ls.take m = ls from List.take_of_length_le (by rw [HQ.out]; exact Nat.le_refl _))
      go_wp2
      go_ret
      refine ⟨by rw [e1.out]; rfl, ⟨A, c, g, by rw [HQ.out], by rw [HQ.out]; exact HA.out, fun h => Nat.lt_of_lt_of_le (HG.out (by rw [HQ.out] at h; exact h)) HK.out.size, fun i hi => ?_⟩, HK.out.mono fun b hb => ?_⟩
      · rw [HQ.out] at hi
        obtain ⟨A', c', g', d1, d2, d3, d4⟩ := HD.out i hi
        refine ⟨A', c', g', ?_, d2, fun h => Nat.lt_of_lt_of_le (d3 h) HK.out.size, d4⟩
        exact (HK.out.cell (p := ⟨g, i, none⟩) (HG.out (by omega)) (fun ⟨j, x, _, hx, hr⟩ => HNE.out j x g hx hr rfl)).trans (HC.out i _ d1).1
      · obtain ⟨i, x, hi, hx, hr⟩ := hb
        exact HSG.out.lo hx hr

set_option maxRecDepth 100000 in
set_option maxHeartbeats 2000000 in
theorem heldRecSS_any (v : Value) (ls : List (List RecD)) (k0 : Int) (w : World) (h : Marks w v ls k0) (h0 : 0 ≤ k0) (h1 : k0 + 3 * total ls ≤ 8388608) (hn : ls.length ≤ 1048576) (hs : ∀ i, i < ls.length → (listAt ls i).length ≤ 1048576) :
    Calls Tryd.prog 32 #[v, .int .i64 k0] w fun e w' => e = .returned (.int .i64 (k0 + 3 * total ls)) ∧ Below w.heap.size w w' := by
  have H := Lib.hid h
  obtain ⟨A, c, g, rfl, -⟩ := h
  have HS := Lib.hid hs
  clear hs
  generalize hq : ls.length = n at *
  have HQ := Lib.hid hq
  clear hq
  go_enter Tryd.func32, Tryd.ntmps32
  go_wp2
  go_loopw [1, 5] (fun kk i wr => ∃ m : Nat, m ≤ n ∧ i = .int .i64 m ∧ kk = .int .i64 (k0 + 3 * total (ls.take m)) ∧ Below w.heap.size w wr) (fun _ i _ => n - (intOf i).toNat)
  case atStart => exact ⟨0, Nat.zero_le _, rfl, by simp [total], Below.refl _ _⟩
  case round =>
    obtain ⟨m, hm, rfl, rfl, K⟩ := hrel
    have HK := Lib.hid K
    clear K
    by_cases hlt : m < n
    · obtain ⟨A0, c0, g, e, hA, hg, hall⟩ := H.out.go HK.out
      rw [HQ.out] at e hA hg hall
      injection e with e1 _ e2
      subst e1 e2
      obtain rfl := hA (by omega)
      obtain ⟨A2, c2, g2, qc, hA2, hg2, R2⟩ := hall m hlt
      have hlen := HS.out m hlt
      have htk := Lib.hid (total_take (ls := ls) (m := m) (by rw [HQ.out]; exact hlt))
      have htl := total_le (ls := ls) (m + 1)
      rw [htk.out] at htl
      have HA2 := Lib.hid hA2
      have HR2 := Lib.hid R2
      clear hall hA hg hA2 hg2 R2
      generalize (listAt ls m).length = len at *
      generalize total (ls.take m) = tm at *
      go_wp2_with fail
      refine (heldRecS_any A2 len c2 g2 (k0 + 3 * tm) wr HA2.out HR2.out hlen (by omega) (by omega)).mono ?_
      rintro e w2 ⟨rfl, hb2⟩
      have HK2 := Lib.hid (HK.out.trans (hb2.mono HK.out.size))
      clear hb2
      go_wp2
      exact ⟨⟨m + 1, by omega, by go_num, int_eq (by rw [htk.out]; omega), HK2.out⟩, by simp [intOf]; omega⟩
    · obtain rfl : m = n := by omega
      have e1 := Lib.hid (show ls.take m = ls from List.take_of_length_le (by rw [HQ.out]; exact Nat.le_refl _))
      go_wp2
      go_ret
      exact ⟨by rw [e1.out]; rfl, HK.out⟩
end Go.Proofs.YtcpmkbemkhacnaaDoor
