/-
  The model's draw of a store: l4Draw.
-/
import Derived.Test.YtcpmkbemkhacnaaDoorGa
import Derived.Test.YtcpmkbemkhacnaaDoorFj
set_option linter.unusedVariables false
namespace Go.Proofs.YtcpmkbemkhacnaaDoor
open Go.RowKit

theorem OB.takeAt {w : World} {B n c k : Nat} {A : Option Addr} {L : List Nat} (h : OB w B (.slice A n c) L) (hk : k ≤ L.length) : OB w B (.slice A k c) (L.take k) := by
  obtain ⟨⟨hl, ho⟩, hs⟩ := h
  refine ⟨⟨by simp, ?_⟩, hs.take k⟩
  rcases ho with ⟨hv, h0⟩ | ⟨g, cap, cur, hv, hb, hh, hnc, hcm, hsz, ht⟩
  · injection hv with h1 h2 h3
    subst h1 h3
    obtain rfl : k = 0 := by omega
    exact .inl ⟨rfl, by simp⟩
  · injection hv with h1 h2 h3
    subst h1 h3
    refine .inr ⟨g, c, cur, by rw [List.length_take, Nat.min_eq_left hk], hb, hh, by rw [List.length_take]; omega, hcm, hsz, ?_⟩
    rw [List.length_take, Nat.min_eq_left hk, Nat.mul_one]
    rw [Nat.mul_one] at ht
    have := congrArg (List.take k) ht
    rw [List.take_take, Nat.min_eq_left hk] at this
    rw [this, List.map_take]
theorem OB.setAt {w : World} {B n c k b : Nat} {A : Option Addr} {L : List Nat} (h : OB w B (.slice A n c) L) (hk : k < L.length) (hb : b < 256) :
    ∃ s, A = some ⟨s, 0, none⟩ ∧ B ≤ s ∧ s < w.heap.size ∧ w.cell? ⟨s, k, none⟩ = some (.int .u8 (L.getD k 0 : Nat)) ∧ w.frozen? ⟨s, k, none⟩ = false ∧
      OB (w.setCell ⟨s, k, none⟩ (.int .u8 (b : Int))) B (.slice A n c) (L.set k b) := by
  obtain ⟨A', c', s, hv, hcap, hA, hB, hz, hc⟩ := h.open_
  injection hv with h1 h2 h3
  subst h1 h3
  obtain rfl := hA (by omega)
  refine ⟨s, rfl, hB, hz (by omega), (hc k hk).1, (hc k hk).2, ?_⟩
  obtain ⟨⟨hl, ho⟩, hs⟩ := h
  refine ⟨⟨by simp, ?_⟩, fun x hx => ?_⟩
  · rcases ho with ⟨hv, h0⟩ | ⟨g, cap, cur, hv, hb', hh, hnc, hcm, hsz, ht⟩
    · cases hv
    · injection hv with h1 h2 h3
      injection h1 with h1
      injection h1 with h1 _ _
      subst h1 h3
      refine .inr ⟨s, c, _, by rw [List.length_set, h2], hb', heap_setCell_same _ _ k _ _ _ hh, by rw [List.length_set]; exact hnc, hcm, by simpa using hsz, ?_⟩
      rw [List.length_set, Nat.mul_one]
      rw [Nat.mul_one] at ht
      rw [Array.toList_setIfInBounds, List.take_set, ht, List.map_set]
      rfl
  · rcases List.mem_or_eq_of_mem_set hx with h | h
    · exact hs x h
    · rw [h]; exact hb
theorem framedD_le (l : List RecD) : (framedD l).length ≤ 7 + 9 * l.length := by
  cases h : writeB l
  · rw [framedD_no h]; simp
  · exact framedD_few h
theorem OB.three {w : World} {B : Nat} (hB : B ≤ w.heap.size) {x y z : Nat} (hx : x < 256) (hy : y < 256) (hz : z < 256) : OB (w.alloc (.cells #[.int .u8 x, .int .u8 y, .int .u8 z] 5)) B (.slice (some ⟨w.heap.size, 0, none⟩) 3 3) [x, y, z] := by
  refine ⟨⟨rfl, .inr ⟨w.heap.size, 3, _, rfl, hB, heap_alloc_new w _, Nat.le_refl _, by unfold maxLen; decide, rfl, rfl⟩⟩, fun u hu => ?_⟩
  simp at hu
  omega
/-- Behind a draw of a store. -/
def DrawnStore (g : Nat) (w : World) (e : Ending) (w' : World) : Prop :=
  ∃ v L, e = .returned v ∧ L.length ≤ 175 ∧ OB w' w.heap.size v L ∧ Cur 79 .i64 w' g ∧ Keeps (· = g) w w'
set_option maxRecDepth 100000 in
set_option maxHeartbeats 4000000 in
theorem l4Draw_any (g : Nat) (w : World) (h : Cur 79 .i64 w g) : Calls Tryd.prog 37 #[.pointer (some ⟨g, 0, none⟩)] w (DrawnStore g w) := by
  have hl := h.lt
  have hc0 := h.alloc (.cells #[] 5)
  have hK0 : Keeps (· = g) w (w.alloc (.cells #[] 5)) := (Keeps.refl _ _).alloc _
  have O0 : OB (w.alloc (.cells #[] 5)) w.heap.size (.slice (some ⟨w.heap.size, 0, none⟩) 0 0) [] := OB.empty (Nat.le_refl _)
  clear h
  go_enter Tryd.func37, Tryd.ntmps37
  go_wp2_with fail
  refine (l1Below_any g 5 _ hc0 (by omega) (by omega)).mono ?_
  rintro e w1 ⟨n, rfl, n0, n1, hc1, hk1⟩
  have K1 := hK0.trans hk1
  have O1 := O0.keeps hk1 (by rintro r hr rfl; omega)
  clear hc0 hK0 O0 hk1
  go_wp2_with fail
  go_loopw [3, 4] (fun s3 s4 wr => ∃ (k : Int) (L : List Nat), s4 = .int .i64 k ∧ 0 ≤ k ∧ (L.length : Int) + 43 * k ≤ 172 ∧ OB wr w.heap.size s3 L ∧ Cur 79 .i64 wr g ∧ Keeps (· = g) w wr) (fun _ s4 _ => (intOf s4).toNat)
  case atStart => exact ⟨n, [], rfl, n0, by simp; omega, O1, hc1, K1⟩
  case round =>
    clear O1 hc1 K1 n0 n1
    obtain ⟨k, L, rfl, k0, hkl, O, hc, K⟩ := hrel
    obtain ⟨A3, c3, g3, rfl, -⟩ := O.open_
    by_cases hpos : 0 < k
    · go_wp2_with fail
      refine (l3DrawList_any g _ hc).mono ?_
      rintro e w3 ⟨v3, l, rfl, hll, O3, hc3, hk3⟩
      have K3 := K.trans hk3
      have P3 := O.keeps hk3 (by rintro r hr rfl; omega)
      clear hc K O hk3
      go_wp2_with fail
      refine (specFramed_any _ l w3 O3.rt).mono ?_
      rintro e w4 ⟨v4, rfl, O4, hb4⟩
      have HK4 := Lib.hid (K3.trans (Keeps.of_below hb4))
      have HP4 := Lib.hid (P3.below hb4)
      have HC4 := Lib.hid (hc3.below hb4)
      have hs4 := HK4.out.size
      have hfl := framedD_le l
      have HB4 := Lib.hid O4.bt
      have HR4 := Lib.hid O4.real
      have hgl := HC4.out.lt
      clear hc3 K3 P3 O3 O4 hb4
      generalize framedD l = M at *
      generalize writeB l = ok at *
      go_wp2_with ((at_builtin; refine wpList_append_bt rfl _ _ rfl w.heap.size (.slice A3 L.length c3) L rfl HP4.out _ M rfl HB4.out HR4.out (by omega) hs4 ?_; intro v5 w5 O5 G5; have G5' : World.grownBy w4 w5 (Value.slice A3 L.length c3).ownBlock := G5; clear G5))
      refine ⟨⟨k - 1, L ++ M, rfl, by omega, by rw [List.length_append]; push_cast; omega, O5, HC4.out.grown G5' (fun r hr => by have := (HP4.out.lt hr).1; omega), HK4.out.grown G5' (fun r hr => (HP4.out.lt hr).1)⟩, by simp [intOf]; omega⟩
    · obtain rfl : k = 0 := by omega
      have hL : L.length ≤ 172 := by omega
      clear hkl k0 hpos
      generalize hq : L.length = q at *
      have HQ := Lib.hid hq
      clear hq
      go_wp2_with fail
      refine (l1Once_any g 3 _ hc (by omega) (by omega)).mono ?_
      rintro e w3 ⟨b, rfl, hc3, hk3⟩
      have K3 := K.trans hk3
      have HO3 := Lib.hid (O.keeps hk3 (by rintro r hr rfl; omega))
      clear K O hk3 hc
      cases b
      · go_wp2_with fail
        go_ret
        exact ⟨_, L, rfl, by rw [HQ.out]; omega, HO3.out, hc3, K3⟩
      · by_cases hq0 : 0 < q
        · go_wp2_with fail
          refine (l1Below_any g 3 _ hc3 (by omega) (by omega)).mono ?_
          rintro e w4 ⟨x, rfl, x0, x1, hc4, hk4⟩
          have K4 := K3.trans hk4
          have HO4 := Lib.hid (HO3.out.keeps hk4 (by rintro r hr rfl; omega))
          clear K3 HO3 hk4 hc3
          rcases (by omega : x = 0 ∨ x = 1 ∨ x = 2) with rfl | rfl | rfl
          · go_wp2_with fail
            refine (l1Below_any g q _ hc4 (by omega) (by omega)).mono ?_
            rintro e w5 ⟨k, rfl, k0, k1, hc5, hk5⟩
            obtain ⟨k, rfl⟩ := Int.eq_ofNat_of_zero_le k0
            have K5 := K4.trans hk5
            have HO5 := Lib.hid (HO4.out.keeps hk5 (by rintro r hr rfl; omega))
            clear K4 HO4 hk5 hc4
            go_wp2_with fail
            refine (l1Byte_any g _ hc5).mono ?_
            rintro e w6 ⟨z, rfl, z0, z1, hc6, hk6⟩
            obtain ⟨z, rfl⟩ := Int.eq_ofNat_of_zero_le z0
            have K6 := K5.trans hk6
            have O6 := HO5.out.keeps hk6 (by rintro r hr rfl; omega)
            obtain ⟨s, rfl, hB, hz, t0, f0, hM⟩ := O6.setAt (k := k) (b := z) (by rw [HQ.out]; omega) (by omega)
            have HM := Lib.hid hM
            have HK6 := Lib.hid (K6.far (p := ⟨s, k, none⟩) (by show w.heap.size ≤ s; omega) (.int .u8 (z : Int)))
            have HC6 := Lib.hid (hc6.far (p := ⟨s, k, none⟩) (by show g < s; omega) (.int .u8 (z : Int)))
            clear O6 hM K5 HO5 hk6 K6
            go_wp2_with fail
            go_ret
            exact ⟨_, _, rfl, by rw [List.length_set, HQ.out]; omega, HM.out, HC6.out, HK6.out⟩
          · go_wp2_with fail
            refine (l1Below_any g q _ hc4 (by omega) (by omega)).mono ?_
            rintro e w5 ⟨k, rfl, k0, k1, hc5, hk5⟩
            obtain ⟨k, rfl⟩ := Int.eq_ofNat_of_zero_le k0
            have K5 := K4.trans hk5
            have HO5 := Lib.hid (HO4.out.keeps hk5 (by rintro r hr rfl; omega))
            obtain ⟨A', c', s', hv, hcap, -⟩ := HO5.out.open_
            injection hv with hA _ hv
            subst hA hv
            rw [HQ.out] at hcap
            clear K4 HO4 hk5 hc4
            go_wp2_with fail
            go_ret
            exact ⟨_, L.take k, rfl, by rw [List.length_take, HQ.out]; omega, HO5.out.takeAt (by rw [HQ.out]; omega), hc5, K5⟩
          · go_wp2_with fail
            refine (l1Byte_any g _ hc4).mono ?_
            rintro e w5 ⟨y, rfl, y0, y1, hc5, hk5⟩
            obtain ⟨y, rfl⟩ := Int.eq_ofNat_of_zero_le y0
            have K5 := K4.trans hk5
            have O5 := HO4.out.keeps hk5 (by rintro r hr rfl; omega)
            clear K4 HO4 hk5 hc4
            go_wp2_with fail
            refine (l1Byte_any g _ hc5).mono ?_
            rintro e w6 ⟨z, rfl, z0, z1, hc6, hk6⟩
            obtain ⟨z, rfl⟩ := Int.eq_ofNat_of_zero_le z0
            have X : Below w6.heap.size w6 (w6.alloc (.cells #[.int .u8 (y : Int), .int .u8 ((0 : Nat) : Int), .int .u8 (z : Int)] 5)) := (Below.refl _ _).alloc (Nat.le_refl _) _
            have HK6 := Lib.hid ((K5.trans hk6).trans (Keeps.of_below X))
            have HO6 := Lib.hid ((O5.keeps hk6 (by rintro r hr rfl; omega)).below X)
            have HC6 := Lib.hid (hc6.below X)
            have OT := OB.three (w := w6) (Nat.le_refl _) (x := y) (y := 0) (z := z) (by omega) (by omega) (by omega)
            have HT := Lib.hid OT.bt
            have HTR := Lib.hid OT.real
            have hgl := HC6.out.lt
            have hs6 := HK6.out.size
            clear K5 O5 hk6 hc5 hc6 OT X
            go_wp2_with ((at_builtin; refine wpList_append_bt rfl _ _ rfl w.heap.size (.slice A3 q c3) L rfl HO6.out _ [y, 0, z] rfl HT.out HTR.out (by rw [HQ.out]; simp; omega) hs6 ?_; intro v5 w7 O7 G7; have G7' : World.grownBy (w6.alloc (.cells #[.int .u8 (y : Int), .int .u8 ((0 : Nat) : Int), .int .u8 (z : Int)] 5)) w7 (Value.slice A3 q c3).ownBlock := G7; clear G7))
            go_ret
            exact ⟨_, _, rfl, by rw [List.length_append, HQ.out]; simp; omega, O7, HC6.out.grown G7' (fun r hr => by have := (HO6.out.lt hr).1; omega), HK6.out.grown G7' (fun r hr => (HO6.out.lt hr).1)⟩
        · obtain rfl : q = 0 := by omega
          go_wp2_with fail
          go_ret
          exact ⟨_, L, rfl, by rw [HQ.out]; omega, HO3.out, hc3, K3⟩
end Go.Proofs.YtcpmkbemkhacnaaDoor
