/-
  FnHolds' walk.
-/
import Derived.Test.YtmcafdhffkhcgaaGreatMZxHa
import Derived.Test.YtmcafdhffkhcgaaGreatMZxHd
import Derived.Test.YtmcafdhffkhcgaaGreatMZxPt
import Derived.Test.YtmcafdhffkhcgaaGreatMZ2
import Derived.Test.YtmcafdhffkhcgaaGreatMZxUo
import Derived.Test.YtmcafdhffkhcgaaGreatMZ0
/- He -/
set_option linter.unusedVariables false
namespace Go.Proofs.YtmcafdhffkhcgaaGreat
open Go.RowKit

theorem newS_held {d : PlanD} (h : planOkB d = true) : (∀ i, i < d.n2 → (mntAt (newS d) i).1 = true) ∧ (∀ i, i < d.n3 → devAt (newS d) i = true) := by
  unfold newS
  rw [if_pos h]
  constructor
  · intro i hi
    simp [mntAt, hi]
  · intro i hi
    simp [devAt, hi]
theorem stop_ok {d : PlanD} {ph ck bo ba lb gd pr : Int} {co : Bool} {P : List (Int × Int)} {ms : List (Bool × Int)} {ds : List Bool} {ls : List Int} (h : StOk d ⟨ph, co, ck, bo, ba, lb, P, ms, ds, ls, gd, pr⟩) {k : Nat} (hk : k < P.length) : StOk d ⟨ph, co, ck, bo, ba, lb, P.set k (4, (podA P k).2), ms, ds, ls, gd, pr⟩ := by
  obtain ⟨h1, h2, h3, h4, h5, h6, h7, h8, h9, h10, h11, h12, h13, h14, h15, h16⟩ := h
  refine ⟨h1, h2, h3, h4, h5, h6, h7, h8, h9, by simpa using h10, h11, h12, ?_, h14, h15, h16⟩
  intro q hq
  rcases List.mem_or_eq_of_mem_set hq with h | h
  · exact h13 q h
  · subst h
    refine ⟨⟨by show (0 : Int) ≤ 4; decide, by show (4 : Int) ≤ 6; decide⟩, ?_⟩
    have : podA P k = P[k] := by simp [podA, List.getD, hk]
    rw [this]
    exact (h13 _ (List.getElem_mem hk)).2
theorem stop_all {P : List (Int × Int)} {k : Nat} {y : Int} (h : ∀ j, j < k → (podA P j).1 = 4) (hk : k < P.length) : ∀ j, j < k + 1 → (podA (P.set k (4, y)) j).1 = 4 := fun j hj => by
  by_cases e : j = k
  · subst e
    simp [podA, List.getD, hk]
  · have := h j (by omega)
    simpa [podA, List.getD, Ne.symm e] using this
theorem heldN_le (d : PlanD) (s : StD) : heldN d s ≤ d.n2 := by
  have := List.countP_le_length (p := fun i => (mntAt s i).1) (l := List.range d.n2)
  simpa [heldN] using this
theorem picks_pos {n : Nat} {p : Nat → Bool} {i : Nat} (hi : i < n) (h : p i = true) : 0 < (picks n p).length := by
  have : (i : Int) ∈ picks n p := by
    unfold picks
    exact List.mem_map.2 ⟨i, List.mem_filter.2 ⟨List.mem_range.2 hi, h⟩, rfl⟩
  exact List.length_pos_of_mem this
theorem give_all {d : PlanD} {s : StD} (h : StOk d s) (hm : ∀ j, j < d.n2 → (mntAt s j).1 = false) (hd : ∀ j, j < d.n3 → devAt s j = true) {i : Nat} (hi : i < d.n3) : giveB d s i = true := by
  obtain ⟨m, -, hml, hmp⟩ := dev_mnt h.plan hi
  unfold giveB
  rw [hmp, hm m hml, hd i hi]
  rfl

set_option maxRecDepth 100000 in
set_option maxHeartbeats 16000000 in
theorem lawHolds (A : Option Addr) (n c : Nat) (w : World) (hB : Bytes w w.heap.size A n) (hn : n ≤ maxLen) : Calls Tryz.prog 3 #[.slice A n c] w fun e w' => e = .returned (.bool true) ∧ Below w.heap.size w w' := by
  have HB := Lib.hid hB
  clear hB
  go_enter Tryz.func3, Tryz.ntmps3
  go_wp2_with fail
  refine (big_any A n c _ hn).mono ?_
  rintro e w2 ⟨rfl, rfl⟩
  by_cases hbig : 4096 < (n : Int)
  · go_wp2_with fail
    go_ret
    exact ⟨rfl, Below.refl _ _⟩
  · have hn4 : n ≤ 4096 := by omega
    clear hbig
    go_wp2_with fail
    refine (roll_any A n c 9 _ HB.out hn4).mono ?_
    rintro e w1 ⟨g, rfl, hg, CU, K⟩
    go_wp2_with fail
    refine (scheme2_any g w1 CU).mono ?_
    rintro e w2 ⟨v0, v1, v2, v3, d, rfl, o0, o1, o2, o3, CU2, hk, ⟨hok, hn6, -, hn5, hn3⟩, hn0, hn1⟩
    have Lp : Lists w2 w1.heap.size v0 v1 v2 v3 d := ⟨o0, o1, o2, o3⟩
    replace Lp := Lp.base K.size
    have hgl := CU.lt
    replace K := K.trans (hk.below (B := w.heap.size) K.size (by rintro b hb rfl; omega))
    replace CU := CU2
    clear o0 o1 o2 o3 CU2 hk
    have HOK := Lib.hid hok
    obtain ⟨V0, C0, rfl, -, -⟩ := Lp.o0.formR
    obtain ⟨V1, C1, rfl, -, -⟩ := Lp.o1.formR
    obtain ⟨V2, C2, rfl, -, -⟩ := Lp.o2.formR
    obtain ⟨V3, C3, rfl, -, -⟩ := Lp.o3.formR
    have hg2 : g < w2.heap.size := CU.lt
    go_upto_region 5 with fail
    have HP4 := heap_alloc_new w2 (.cells (planC V0 V1 V2 V3 d.n0 C0 d.n1 C1 d.n2 C2 d.n3 C3 d.l d.p d.t) 32)
    have hb : Below w2.heap.size w2 (w2.alloc (.cells (planC V0 V1 V2 V3 d.n0 C0 d.n1 C1 d.n2 C2 d.n3 C3 d.l d.p d.t) 32)) := (Below.refl _ _).alloc (Nat.le_refl _) _
    replace K := K.trans (hb.mono K.size)
    replace CU := CU.below hb
    replace Lp := Lp.below hb
    clear hb
    generalize w2.alloc (.cells (planC V0 V1 V2 V3 d.n0 C0 d.n1 C1 d.n2 C2 d.n3 C3 d.l d.p d.t) 32) = w3 at K CU Lp HP4 ⊢
    generalize w2.heap.size = R4 at HP4 hg2 ⊢
    have h4z := (Array.getElem?_eq_some_iff.1 HP4).1
    have h4 : ∀ o, w3.cell? ⟨R4, o, none⟩ = (planC V0 V1 V2 V3 d.n0 C0 d.n1 C1 d.n2 C2 d.n3 C3 d.l d.p d.t)[o]? := fun o => cell_of_row _ _ o _ _ _ HP4
    go_wp2_with fail
    refine (specNewState_any _ d w3 Lp.plan).mono ?_
    rintro e w4 ⟨v', rfl, Os, hb⟩
    have HG : ∀ r, rowsOf v' r → g < r := fun r hr => Nat.lt_of_lt_of_le (Nat.lt_trans hg2 h4z) (Os.blocks hr).1
    replace Os := Os.base K.size
    clear h4
    replace K := K.trans (hb.mono K.size)
    replace CU := CU.below hb
    replace Lp := Lp.below hb
    replace HP4 := (hb.block _ (Array.getElem?_eq_some_iff.1 HP4).1).trans HP4
    clear hb
    have N0 := newS_ok hok
    have N1 := newS_held hok
    obtain ⟨s1, hs1⟩ : ∃ s, newS d = s := ⟨_, rfl⟩
    rw [hs1] at Os N0 N1
    clear hs1
    obtain ⟨y0, y1, y2, y3, rfl, -⟩ := Os.it
    obtain ⟨⟨E0, k0, rfl⟩, ⟨E1, k1, rfl⟩, ⟨E2, k2, rfl⟩, ⟨E3, k3, rfl⟩⟩ := Os.shapes
    obtain ⟨ph, co, ck, bo, ba, lb, ps, ms, ds, ls, gd, pr⟩ := s1
    dsimp only at Os N0 N1 ⊢
    go_upto_region 6 with fail
    replace h4z : R4 < w4.heap.size := (Array.getElem?_eq_some_iff.1 HP4).1
    have HS5 := heap_alloc_new w4 (.cells (stC E0 E1 E2 E3 ps.length k0 ms.length k1 ds.length k2 ls.length k3 ph co ck bo ba lb gd pr) 38)
    have hb : Below w4.heap.size w4 (w4.alloc (.cells (stC E0 E1 E2 E3 ps.length k0 ms.length k1 ds.length k2 ls.length k3 ph co ck bo ba lb gd pr) 38)) := (Below.refl _ _).alloc (Nat.le_refl _) _
    replace K := K.trans (hb.mono K.size)
    replace CU := CU.below hb
    replace Lp := Lp.below hb
    replace HP4 := (hb.block _ (Array.getElem?_eq_some_iff.1 HP4).1).trans HP4
    replace Os := Os.below hb
    clear hb
    generalize w4.alloc (.cells (stC E0 E1 E2 E3 ps.length k0 ms.length k1 ds.length k2 ls.length k3 ph co ck bo ba lb gd pr) 38) = w5 at K CU Lp HP4 Os HS5 ⊢
    generalize w4.heap.size = R5 at HS5 h4z ⊢
    have SO := Lib.hid N0
    have HD := Lib.hid N1.2
    have HM1 := Lib.hid N1.1
    have hnp : ps.length = d.n0 := N0.np
    have hnm : ms.length = d.n2 := N0.nm
    have hnd : ds.length = d.n3 := N0.nd
    have HNP := Lib.hid hnp
    have HNM := Lib.hid hnm
    have HND := Lib.hid hnd
    have hp12 : ps.length ≤ 6 := by omega
    have hm12 : ms.length ≤ 5 := by omega
    have hd12 : ds.length ≤ 3 := by omega
    clear N0 N1 hok hnp hnm hnd
    have h5 : ∀ o, w5.cell? ⟨R5, o, none⟩ = (stC E0 E1 E2 E3 ps.length k0 ms.length k1 ds.length k2 ls.length k3 ph co ck bo ba lb gd pr)[o]? := fun o => cell_of_row _ _ o _ _ _ HS5
    go_wp2_with fail
    go_loopw [6] (fun i wr => ∃ (k : Nat) (P : List (Int × Int)), P.length = ps.length ∧ k ≤ ps.length ∧ i = .int .i64 k ∧ StOk d (⟨ph, co, ck, bo, ba, lb, P, ms, ds, ls, gd, pr⟩ : StD) ∧ (∀ j, j < k → (podA P j).1 = 4) ∧ Cur 51 .u64 wr g ∧ Below w.heap.size w wr ∧ Lists wr w.heap.size (.slice V0 d.n0 C0) (.slice V1 d.n1 C1) (.slice V2 d.n2 C2) (.slice V3 d.n3 C3) d ∧ OwnSt wr w.heap.size (.agg (stC E0 E1 E2 E3 ps.length k0 ms.length k1 ds.length k2 ls.length k3 ph co ck bo ba lb gd pr)) (⟨ph, co, ck, bo, ba, lb, P, ms, ds, ls, gd, pr⟩ : StD) ∧ wr.heap[R4]? = some (.cells (planC V0 V1 V2 V3 d.n0 C0 d.n1 C1 d.n2 C2 d.n3 C3 d.l d.p d.t) 32) ∧ wr.heap[R5]? = some (.cells (stC E0 E1 E2 E3 ps.length k0 ms.length k1 ds.length k2 ls.length k3 ph co ck bo ba lb gd pr) 38)) (fun i _ => ps.length - (intOf i).toNat)
    case atStart => exact ⟨0, ps, rfl, Nat.zero_le _, rfl, SO.out, fun j hj => absurd hj (Nat.not_lt_zero _), CU, K, Lp, Os, HP4, HS5⟩
    case round =>
      clear h5 SO CU K Lp Os HP4 HS5
      obtain ⟨k, P, hl, hk, rfl, so, hall, CU, K, Lp, Os, HP4, HS5⟩ := hrel
      have SO := Lib.hid so
      have HALL := Lib.hid hall
      clear so hall
      have h5 : ∀ o, wr.cell? ⟨R5, o, none⟩ = (stC E0 E1 E2 E3 ps.length k0 ms.length k1 ds.length k2 ls.length k3 ph co ck bo ba lb gd pr)[o]? := fun o => cell_of_row _ _ o _ _ _ HS5
      by_cases hlt : k < ps.length
      · obtain ⟨gr, hY, hBg, hgz, ⟨rcs, hgr⟩, HR⟩ := Os.podRow (i := k) (by show k < P.length; omega)
        subst hY
        have q0 := (HR (k * 2) (by rw [podCs_len]; show _ < P.length * 2; omega)).1.trans (podCs_at P (i := k) (by omega)).1
        have hf0 := (HR (k * 2) (by rw [podCs_len]; show _ < P.length * 2; omega)).2
        clear HR
        have hx : k * 2 + 2 ≤ 24 := by omega
        go_wp2_with fail
        have kk : Keeps (· = gr) wr (wr.setCell ⟨gr, k * 2, none⟩ (.int .i64 4)) := Keeps.set (S := (· = gr)) (Keeps.refl _ _) rfl _
        have n4 : ¬ R4 = gr := ne_types hgr HP4 (by decide)
        have n5 : ¬ R5 = gr := ne_types hgr HS5 (by decide)
        have OsX := Os.podSet (i := k) (by show k < P.length; omega) 4
        have x4 := (kk.block _ (Array.getElem?_eq_some_iff.1 HP4).1 n4).trans HP4
        have x5 := (kk.block _ (Array.getElem?_eq_some_iff.1 HS5).1 n5).trans HS5
        have hgg : g < gr := HG gr ⟨_, 6, _, rfl, rfl, rfl⟩
        have LpX := Lp.keeps kk hgr (by decide)
        have CUX := CU.keeps kk (fun b hb e => by omega)
        have KX := K.trans (kk.below (B := w.heap.size) K.size (by rintro b hb rfl; omega))
        exact ⟨⟨k + 1, P.set k (4, (podA P k).2), by rw [List.length_set]; exact hl, by omega, by go_num, stop_ok SO.out (by omega), stop_all HALL.out (by omega), CUX, KX, LpX, OsX, x4, x5⟩, by simp [intOf]; omega⟩
      · obtain rfl : k = ps.length := by omega
        have HST : Hid (∀ i, i < d.n0 → aliveB (podA P i).1 = false) := Lib.hid fun i hi => by rw [HALL.out i (by rw [HNP.out]; exact hi)]; rfl
        clear HALL hk
        go_wp2_with fail
        go_loopw [7] (fun j wr => ∃ (h : Nat) (M : List (Bool × Int)), M.length = ms.length ∧ j = .int .i64 h ∧ h = heldN d (⟨ph, co, ck, bo, ba, lb, P, M, ds, ls, gd, pr⟩ : StD) ∧ StOk d (⟨ph, co, ck, bo, ba, lb, P, M, ds, ls, gd, pr⟩ : StD) ∧ Cur 51 .u64 wr g ∧ Below w.heap.size w wr ∧ Lists wr w.heap.size (.slice V0 d.n0 C0) (.slice V1 d.n1 C1) (.slice V2 d.n2 C2) (.slice V3 d.n3 C3) d ∧ OwnSt wr w.heap.size (.agg (stC E0 E1 E2 E3 ps.length k0 ms.length k1 ds.length k2 ls.length k3 ph co ck bo ba lb gd pr)) (⟨ph, co, ck, bo, ba, lb, P, M, ds, ls, gd, pr⟩ : StD) ∧ wr.heap[R4]? = some (.cells (planC V0 V1 V2 V3 d.n0 C0 d.n1 C1 d.n2 C2 d.n3 C3 d.l d.p d.t) 32) ∧ wr.heap[R5]? = some (.cells (stC E0 E1 E2 E3 ps.length k0 ms.length k1 ds.length k2 ls.length k3 ph co ck bo ba lb gd pr) 38)) (fun j _ => (intOf j).toNat)
        case atStart => exact ⟨ms.length, ms, rfl, rfl, by rw [HNM.out]; exact (held_new HM1.out).symm, SO.out, CU, K, Lp, Os, HP4, HS5⟩
        case round =>
          clear h5 SO CU K Lp Os HP4 HS5
          obtain ⟨h, M, hlM, rfl, hh, so, CU, K, Lp, Os, HP4, HS5⟩ := hrel
          have SO := Lib.hid so
          have HH := Lib.hid hh
          clear so hh
          obtain ⟨t, ht⟩ : ∃ t, t = (⟨ph, co, ck, bo, ba, lb, P, M, ds, ls, gd, pr⟩ : StD) := ⟨_, rfl⟩
          have HT := Lib.hid ht
          have hle : h ≤ 5 := by rw [HH.out]; have := heldN_le d (⟨ph, co, ck, bo, ba, lb, P, M, ds, ls, gd, pr⟩ : StD); omega
          by_cases hpos : 0 < h
          · obtain ⟨f, hf, hff⟩ := free_some SO.out (fun i hi => HST.out i hi) (by rw [← HH.out]; exact hpos)
            have HFF : Hid (0 < (picks d.n2 (freeB d (⟨ph, co, ck, bo, ba, lb, P, M, ds, ls, gd, pr⟩ : StD))).length) := Lib.hid (picks_pos hf hff)
            clear hf hff
            have hp0 : ¬ (h : Int) ≤ 0 := by omega
            go_wp2_with fail
            have hb0 : Below wr.heap.size wr (wr.alloc (.cells #[] 2)) := (Below.refl _ _).alloc (Nat.le_refl _) _
            have O1 : (wr.alloc (.cells #[] 2)).ownsRow wr.heap.size 2 1 (.slice (some ⟨wr.heap.size, 0, none⟩) 0 0) 0 [] := by
              have := World.ownsRow_made (base := wr.heap.size) (e := 2) (size := 1) wr #[] 0 (by simp) (Nat.zero_le _) rfl
              simpa using this
            obtain ⟨i0, hi, hz0, hz1, hz2⟩ := info_parts info_i64
            have HI := Lib.hid hi
            have HZ0 := Lib.hid hz0
            have HZ1 := Lib.hid hz1
            have HZ2 := Lib.hid hz2
            clear hi hz0 hz1 hz2
            obtain ⟨q, hq⟩ : ∃ q, q = freeB d (⟨ph, co, ck, bo, ba, lb, P, M, ds, ls, gd, pr⟩ : StD) := ⟨_, rfl⟩
            have HQ := Lib.hid hq
            rw [← hq] at HFF
            clear hq
            have h4z0 : R4 < wr.heap.size := (Array.getElem?_eq_some_iff.1 HP4).1
            have h5z0 : R5 < wr.heap.size := (Array.getElem?_eq_some_iff.1 HS5).1
            have hgz0 : g < wr.heap.size := CU.lt
            have hKz := K.size
            obtain ⟨wo, hwo⟩ : ∃ x, x = wr := ⟨_, rfl⟩
            subst hwo
            have h4 : ∀ o, wo.cell? ⟨R4, o, none⟩ = (planC V0 V1 V2 V3 d.n0 C0 d.n1 C1 d.n2 C2 d.n3 C3 d.l d.p d.t)[o]? := fun o => cell_of_row _ _ o _ _ _ HP4
            have h5 : ∀ o, wo.cell? ⟨R5, o, none⟩ = (stC E0 E1 E2 E3 ps.length k0 ms.length k1 ds.length k2 ls.length k3 ph co ck bo ba lb gd pr)[o]? := fun o => cell_of_row _ _ o _ _ _ HS5
            have h4a : ∀ o, (wo.alloc (.cells #[] 2)).cell? ⟨R4, o, none⟩ = (planC V0 V1 V2 V3 d.n0 C0 d.n1 C1 d.n2 C2 d.n3 C3 d.l d.p d.t)[o]? := fun o => (hb0.cell (p := ⟨R4, o, none⟩) h4z0).trans (h4 o)
            clear h4 h5
            go_loopw [8, 9] (fun v i wx => ∃ k : Nat, k ≤ d.n2 ∧ i = .int .i64 k ∧ wx.ownsRow wo.heap.size 2 1 v (picks k q).length ((picks k q).map (Value.int .i64)) ∧ Below wo.heap.size wo wx) (fun _ i _ => d.n2 - (intOf i).toNat)
            case atStart => exact ⟨0, Nat.zero_le _, rfl, O1, hb0⟩
            case round =>
              clear O1 hb0 h4a
              skip
              obtain ⟨k, hk, rfl, O, hb⟩ := hrel
              have HO := Lib.hid O
              clear O
              have HB4 := (hb.block _ h4z0).trans HP4
              have HB5 := (hb.block _ h5z0).trans HS5
              have LpY := Lp.below hb
              have OsY := Os.below hb
              have hbz := hb.size
              have h4 := fun o => cell_of_row _ R4 o _ _ _ HB4
              have h5 := fun o => cell_of_row _ R5 o _ _ _ HB5
              by_cases hlt : k < d.n2
              · have hans : (stOkB d (⟨ph, co, ck, bo, ba, lb, P, M, ds, ls, gd, pr⟩ : StD) && mayFreeB d (⟨ph, co, ck, bo, ba, lb, P, M, ds, ls, gd, pr⟩ : StD) k) = q k := by
                  rw [stOkB_iff.2 SO.out, mayFreeB, show inB (k : Int) 0 (d.n2 - 1) = true from by rw [inB_true]; omega, HQ.out, Int.toNat_natCast]; rfl
                go_wp2_with fail
                refine (implMayFree_any _ _ d (⟨ph, co, ck, bo, ba, lb, P, M, ds, ls, gd, pr⟩ : StD) k _ LpY.plan OsY.st).mono ?_
                rw [hans]
                rintro e wz ⟨rfl, hb2⟩
                have HO2 := Lib.hid (ownsRow_below HO.out hb2)
                have hb3 := hb.trans (hb2.mono hb.size)
                clear HO h4 h5 hans HB4 HB5 LpY OsY
                cases hv : q k
                · have HV := Lib.hid (picks_no (n := k) (p := q) hv)
                  go_wp2
                  refine ⟨⟨k + 1, by omega, by go_num, by rw [HV.out]; exact HO2.out, hb3⟩, by simp [intOf]; omega⟩
                · have HV := Lib.hid (picks_yes (n := k) (p := q) hv)
                  have hle2 := picks_le k q
                  have hk5 : k < 5 := by omega
                  have h63 : (picks k q).length + 1 ≤ maxLen := by unfold maxLen; omega
                  have hby : ((picks k q).length + 1) * 8 ≤ 140737488355328 := by omega
                  have H63 := Lib.hid h63
                  have HBY := Lib.hid hby
                  clear h63 hby hle2
                  go_wp2_with (at_builtin; refine wpList_append_own _ rfl _ _ 28 rfl wo.heap.size 2 i0 (.int .i64 0) 1 8 Tryz.underlying28 HI.out HZ0.out HZ1.out HZ2.out rfl (by decide) _ _ _ rfl (HO2.out.alloc (.cells #[.int .i64 k] 2)) ⟨wz.heap.size, 0, none⟩ 1 1 [.int .i64 k] rfl rfl (cell_one_new wz (.int .i64 k) 2) (fun x hx => by simp at hx; subst hx; rfl) H63.out HBY.out (by have := hb3.size; simp <;> omega) ?_; intro v' w4 hown' hgrow hnil)
                  have hb4 : Below wo.heap.size wo w4 := by
                    have hb5 : Below wo.heap.size wo (wz.alloc (.cells #[.int .i64 k] 2)) := hb3.trans ((Below.refl _ _).alloc hb3.size _)
                    obtain ⟨h1, h2, h3, h6, h7⟩ := hgrow
                    exact hb5.trans ⟨h1, h2, h3, h6, fun i hi => h7 i (by have := hb5.size; omega) (fun e => by have := (HO2.out.lt i e.symm).1; omega)⟩
                  refine ⟨⟨k + 1, by omega, by go_num, ?_, hb4⟩, by simp [intOf]; omega⟩
                  rw [HV.out]
                  simpa using hown'
              · obtain rfl : k = d.n2 := by omega
                clear HP4 HS5 Lp Os
                have HP4 := HB4
                have HS5 := HB5
                have Lp := LpY
                have Os := OsY
                have KW := K.trans (hb.mono K.size)
                replace CU := CU.below hb
                clear HB4 HB5 LpY OsY
                obtain ⟨Al, cl, gl, hv, hA, -, hBl, hglz, RL, -, -⟩ := open_row HO.out
                obtain rfl := hA HFF.out
                subst hv
                have hll : ¬ ((picks d.n2 q).length : Int) = 0 := by have := HFF.out; omega
                have hl5 : (picks d.n2 q).length ≤ 5 := by have := picks_le d.n2 q; omega
                go_wp2_with fail
                refine (below_any g (picks d.n2 q).length _ CU (by have := HFF.out; omega) (by omega)).mono ?_
                rintro e w9 ⟨a, rfl, a0, a1, CU9, hk9⟩
                obtain ⟨gcs, hgc⟩ := CU.cells
                have hgl : ¬ gl = g := by omega
                replace Lp := Lp.keeps hk9 hgc (by decide)
                replace Os := Os.keepsT hk9 hgc (by decide)
                replace HP4 := (hk9.block _ (Array.getElem?_eq_some_iff.1 HP4).1 (by show ¬ R4 = g; omega)).trans HP4
                replace HS5 := (hk9.block _ (Array.getElem?_eq_some_iff.1 HS5).1 (by show ¬ R5 = g; exact fun e => by have := ne_types hgc HS5 (by decide); exact this e)).trans HS5
                replace KW := KW.trans (hk9.below (B := w.heap.size) KW.size (by rintro b hb rfl; omega))
                replace CU := CU9
                clear CU9 hgc K
                have K := KW
                clear KW
                obtain ⟨i, rfl⟩ := Int.eq_ofNat_of_zero_le a0
                have hi : i < (picks d.n2 q).length := by omega
                obtain ⟨m, hm, hpm, hqm⟩ := picks_mem (List.getElem_mem hi)
                have ql : w9.cell? ⟨gl, i, none⟩ = some (.int .i64 m) := by
                  refine (hk9.cell (p := ⟨gl, i, none⟩) (hglz HFF.out) hgl).trans ((RL i (by rw [List.length_map]; exact hi)).1.trans ?_)
                  rw [List.getElem?_map, List.getElem?_eq_getElem hi, hpm]
                  rfl
                clear hk9 hpm HO RL h4 h5
                rw [HQ.out] at hqm
                have hfh := free_held hqm
                have hmM : m < M.length := by have := HNM.out; omega
                have hm1 : (mntA M m).1 = true := hfh.1
                obtain ⟨gr, hY, hBg, hgz, ⟨rcs, hgr⟩, HR⟩ := Os.mntRow (i := m) hmM
                subst hY
                have q0 := (HR (m * 2) (by rw [mntCs_len]; show _ < M.length * 2; omega)).1.trans (mntCs_at M (i := m) hmM).1
                have hf0 := (HR (m * 2) (by rw [mntCs_len]; show _ < M.length * 2; omega)).2
                have q1 := (HR (m * 2 + 1) (by rw [mntCs_len]; show _ < M.length * 2; omega)).1.trans (mntCs_at M (i := m) hmM).2
                have hf1 := (HR (m * 2 + 1) (by rw [mntCs_len]; show _ < M.length * 2; omega)).2
                rw [hm1] at q0
                have HFH := Lib.hid hfh
                clear HR hfh hqm
                have h5 := fun o => cell_of_row _ R5 o _ _ _ HS5
                have hx : m * 2 + 2 ≤ 24 := by omega
                go_wp2_with fail
                have kk : Keeps (· = gr) w9 ((w9.setCell ⟨gr, m * 2, none⟩ (.bool false)).setCell ⟨gr, m * 2 + 1, none⟩ (.int .i64 0)) := Keeps.set (S := (· = gr)) (Keeps.set (S := (· = gr)) (Keeps.refl _ _) rfl _) rfl _
                have n4 : ¬ R4 = gr := ne_types hgr HP4 (by decide)
                have n5 : ¬ R5 = gr := ne_types hgr HS5 (by decide)
                have OsX := Os.mntSet (i := m) hmM
                have x4 := (kk.block _ (Array.getElem?_eq_some_iff.1 HP4).1 n4).trans HP4
                have x5 := (kk.block _ (Array.getElem?_eq_some_iff.1 HS5).1 n5).trans HS5
                have hgg : g < gr := HG gr ⟨_, 7, _, rfl, rfl, rfl⟩
                have LpX := Lp.keeps kk hgr (by decide)
                have CUX := CU.keeps kk (fun b hb e => by omega)
                have KX := K.trans (kk.below (B := w.heap.size) K.size (by rintro b hb rfl; omega))
                clear h5 q0 q1 hf0 hf1 ql CU K Lp Os HP4 HS5 kk hgr n4 n5 hgz
                generalize ((w9.setCell ⟨gr, m * 2, none⟩ (.bool false)).setCell ⟨gr, m * 2 + 1, none⟩ (.int .i64 0)) = w10 at OsX x4 x5 LpX CUX KX ⊢
                have CU := CUX
                have K := KX
                have Lp := LpX
                have Os := OsX
                have HP4 := x4
                have HS5 := x5
                clear CUX KX LpX OsX x4 x5
                dsimp only at Os
                have SO2 := Lib.hid (loose_ok SO.out m)
                have HH2 : Hid (h = heldN d (⟨ph, co, ck, bo, ba, lb, P, (M.set m (false, 0)), ds, ls, gd, pr⟩ : StD) + 1) := Lib.hid (HH.out.trans (held_less SO.out hm HFH.out.1))
                have HMN : Hid (∀ i, mntA (M.set m (false, 0)) i = if i = m then (false, 0) else mntA M i) := Lib.hid fun i => mntAt_loose (i := i) SO.out hm
                obtain ⟨M2, hM2⟩ : ∃ x, M.set m (false, 0) = x := ⟨_, rfl⟩
                have hlM2 : M2.length = ms.length := by rw [← hM2, List.length_set]; exact hlM
                rw [show looseS (⟨ph, co, ck, bo, ba, lb, P, M, ds, ls, gd, pr⟩ : StD) m = (⟨ph, co, ck, bo, ba, lb, P, (M.set m (false, 0)), ds, ls, gd, pr⟩ : StD) from rfl] at SO2
                rw [hM2] at Os SO2 HH2 HMN
                clear hM2
                have h4 : ∀ o, w10.cell? ⟨R4, o, none⟩ = (planC V0 V1 V2 V3 d.n0 C0 d.n1 C1 d.n2 C2 d.n3 C3 d.l d.p d.t)[o]? := fun o => cell_of_row _ _ o _ _ _ HP4
                have h5 : ∀ o, w10.cell? ⟨R5, o, none⟩ = (stC E0 (some ⟨gr, 0, none⟩) E2 E3 ps.length k0 ms.length k1 ds.length k2 ls.length k3 ph co ck bo ba lb gd pr)[o]? := fun o => cell_of_row _ _ o _ _ _ HS5
                go_loopw [11] (fun i wx => wx = w10 ∧ ∃ k : Nat, k ≤ d.n2 ∧ i = .int .i64 k) (fun i _ => d.n2 - (intOf i).toNat)
                case atStart => exact ⟨rfl, 0, Nat.zero_le _, rfl⟩
                case round =>
                  obtain ⟨rfl, k, hk, rfl⟩ := hrel
                  by_cases hlt : k < d.n2
                  · have hkM : k < M2.length := by have := HNM.out; omega
                    obtain ⟨gr2, hY, -, -, -, HR⟩ := Os.mntRow (i := k) hkM
                    injection hY with hY
                    injection hY with hY _ _
                    subst hY
                    have q0 := (HR (k * 2) (by rw [mntCs_len]; show _ < M2.length * 2; omega)).1.trans (mntCs_at M2 (i := k) hkM).1
                    obtain ⟨Aq, cq, hv0, -, sl2⟩ := Lp.o2.formR
                    injection hv0 with e0 _ e0c
                    subst e0 e0c
                    obtain ⟨bp, op, hV2, hbp, -, q1⟩ := sl2.cell2 hlt
                    subst hV2
                    have hkm := HMN.out k
                    have hpar := HFH.out.2 k hlt
                    clear HR sl2
                    cases hx1 : (mntA M2 k).1
                    · rw [hx1] at q0
                      clear hkm hpar
                      go_wp2_with fail
                      exact ⟨⟨by trivial, k + 1, by omega, by go_num⟩, by simp [intOf]; omega⟩
                    · rw [hx1] at q0
                      have hpe : (d.x2 (k * 2 + 1) == (m : Int)) = false := by
                        rw [beq_eq_false_iff_ne]
                        intro e
                        by_cases ekm : k = m
                        · rw [if_pos ekm] at hkm; rw [hkm] at hx1; cases hx1
                        · rw [if_neg ekm] at hkm
                          have := hpar e
                          rw [show mntAt (⟨ph, co, ck, bo, ba, lb, P, M, ds, ls, gd, pr⟩ : StD) k = mntA M k from rfl, ← hkm, hx1] at this
                          cases this
                      clear hkm hpar
                      go_wp2_with fail
                      exact ⟨⟨by trivial, k + 1, by omega, by go_num⟩, by simp [intOf]; omega⟩
                  · obtain rfl : k = d.n2 := by omega
                    obtain ⟨h', rfl⟩ : ∃ h', h = h' + 1 := ⟨h - 1, by omega⟩
                    have HH3 : Hid (h' = heldN d (⟨ph, co, ck, bo, ba, lb, P, M2, ds, ls, gd, pr⟩ : StD)) := Lib.hid (by have := HH2.out; omega)
                    clear HH2 HH
                    go_wp2_with fail
                    refine ⟨⟨h', M2, hlM2, by first | (congr 1; omega) | (congr 1) | go_num, HH3.out, SO2.out, CU, K, Lp, Os, HP4, HS5⟩, by first | (simp [intOf]; omega) | simp [intOf]⟩
          · have hp0 : (h : Int) ≤ 0 := by omega
            have H0 : Hid (h = 0) := Lib.hid (by omega)
            have HG : Hid (∀ i, i < d.n3 → giveB d (⟨ph, co, ck, bo, ba, lb, P, M, ds, ls, gd, pr⟩ : StD) i = true) := Lib.hid fun i hi => give_all SO.out (fun j hj => held_none (HH.out.symm.trans H0.out) hj) (fun j hj => HD.out j hj) hi
            clear HH
            obtain ⟨wo, hwo⟩ : ∃ x, x = wr := ⟨_, rfl⟩
            subst hwo
            have h4 : ∀ o, wo.cell? ⟨R4, o, none⟩ = (planC V0 V1 V2 V3 d.n0 C0 d.n1 C1 d.n2 C2 d.n3 C3 d.l d.p d.t)[o]? := fun o => cell_of_row _ _ o _ _ _ HP4
            go_wp2_with fail
            go_loopw [12] (fun i wx => ∃ k : Nat, k ≤ d.n3 ∧ i = .int .i64 k ∧ Below wo.heap.size wo wx) (fun i _ => d.n3 - (intOf i).toNat)
            case atStart => exact ⟨0, Nat.zero_le _, rfl, Below.refl _ _⟩
            case round =>
              clear h4
              obtain ⟨k, hk, rfl, hb⟩ := hrel
              have HB4 := (hb.block _ (Array.getElem?_eq_some_iff.1 HP4).1).trans HP4
              have HB5 := (hb.block _ (Array.getElem?_eq_some_iff.1 HS5).1).trans HS5
              have LpY := Lp.below hb
              have OsY := Os.below hb
              have h4 := fun o => cell_of_row _ R4 o _ _ _ HB4
              have h5 := fun o => cell_of_row _ R5 o _ _ _ HB5
              by_cases hlt : k < d.n3
              · have hans : (stOkB d (⟨ph, co, ck, bo, ba, lb, P, M, ds, ls, gd, pr⟩ : StD) && mayGiveB d (⟨ph, co, ck, bo, ba, lb, P, M, ds, ls, gd, pr⟩ : StD) k) = true := by
                  rw [stOkB_iff.2 SO.out, mayGiveB, show inB (k : Int) 0 (d.n3 - 1) = true from by rw [inB_true]; omega, Int.toNat_natCast, HG.out k hlt]; rfl
                go_wp2_with fail
                refine (implMayGive_any _ _ d (⟨ph, co, ck, bo, ba, lb, P, M, ds, ls, gd, pr⟩ : StD) k _ LpY.plan OsY.st).mono ?_
                rw [hans]
                rintro e wz ⟨rfl, hb2⟩
                have hb3 := hb.trans (hb2.mono hb.size)
                clear h4 h5 hans HB4 HB5 LpY OsY
                go_wp2
                exact ⟨⟨k + 1, by omega, by go_num, hb3⟩, by simp [intOf]; omega⟩
              · obtain rfl : k = d.n3 := by omega
                replace K := K.trans (hb.mono K.size)
                clear LpY OsY Lp Os HP4 HS5 CU SO HG HST hb
                skip
                go_wp2_with fail
                clear h4 h5 HB4 HB5
                refine (drawMayFree_any A n c _ ((HB.out.below K (Nat.le_refl _)).more K.size) hn4).mono ?_
                rintro e w20 ⟨v0, v1, v2, v3, q, us, u, kp, rfl, Lq, Ou, -, -, hb⟩
                replace Lq := Lq.base K.size
                replace Ou := Ou.base K.size
                replace K := K.trans (hb.mono K.size)
                clear hb
                obtain ⟨U0, G0, rfl, -, -⟩ := Lq.o0.formR
                obtain ⟨U1, G1, rfl, -, -⟩ := Lq.o1.formR
                obtain ⟨U2, G2, rfl, -, -⟩ := Lq.o2.formR
                obtain ⟨U3, G3, rfl, -, -⟩ := Lq.o3.formR
                obtain ⟨y0, y1, y2, y3, rfl, -⟩ := Ou.it
                obtain ⟨⟨I0, j0, rfl⟩, ⟨I1, j1, rfl⟩, ⟨I2, j2, rfl⟩, ⟨I3, j3, rfl⟩⟩ := Ou.shapes
                go_upto_region 36 with fail
                have hK0 : Below w20.heap.size w20 w20 := Below.refl _ _
                have XQ := Own.box2 K (planC U0 U1 U2 U3 q.n0 G0 q.n1 G1 q.n2 G2 q.n3 G3 q.l q.p q.t) 32
                have hK1 := hK0.alloc hK0.size (.cells (planC U0 U1 U2 U3 q.n0 G0 q.n1 G1 q.n2 G2 q.n3 G3 q.l q.p q.t) 32)
                have XU := Own.box2 (K.trans (hK1.mono K.size)) (stC I0 I1 I2 I3 u.pods.length j0 u.mnts.length j1 u.devs.length j2 u.lks.length j3 u.ph u.co u.ck u.bo u.ba u.lb u.gd u.pr) 38
                have hK2 := hK1.alloc hK1.size (.cells (stC I0 I1 I2 I3 u.pods.length j0 u.mnts.length j1 u.devs.length j2 u.lks.length j3 u.ph u.co u.ck u.bo u.ba u.lb u.gd u.pr) 38)
                replace XQ := XQ.alloc (.cells (stC I0 I1 I2 I3 u.pods.length j0 u.mnts.length j1 u.devs.length j2 u.lks.length j3 u.ph u.co u.ck u.bo u.ba u.lb u.gd u.pr) 38)
                have hb := hK2
                replace K := K.trans (hb.mono K.size)
                replace Lq := Lq.below hb
                replace Ou := Ou.below hb
                clear hb hK0 hK1 hK2
                try rw [heap_size_alloc_] at XU
                generalize ((w20.alloc (.cells (planC U0 U1 U2 U3 q.n0 G0 q.n1 G1 q.n2 G2 q.n3 G3 q.l q.p q.t) 32)).alloc (.cells (stC I0 I1 I2 I3 u.pods.length j0 u.mnts.length j1 u.devs.length j2 u.lks.length j3 u.ph u.co u.ck u.bo u.ba u.lb u.gd u.pr) 38)) = w21 at K Lq Ou XQ XU ⊢
                have hzw21 := XQ.z
                generalize hww21 : w20.heap.size = B1 at XQ XU hzw21 ⊢
                go_wp2_with fail
                refine (drawMayGive_any A n c w21 ((HB.out.below K (Nat.le_refl _)).more K.size) hn4).mono ?_
                rintro e w22 ⟨v0, v1, v2, v3, r, us, z, kg, rfl, Lr, Oz, -, -, hb⟩
                replace Lr := Lr.base K.size
                replace Oz := Oz.base K.size
                replace K := K.trans (hb.mono K.size)
                replace Lq := Lq.below hb
                replace Ou := Ou.below hb
                replace XQ := XQ.step hb
                replace XU := XU.step hb
                clear hb
                obtain ⟨M0, H0, rfl, -, -⟩ := Lr.o0.formR
                obtain ⟨M1, H1, rfl, -, -⟩ := Lr.o1.formR
                obtain ⟨M2, H2, rfl, -, -⟩ := Lr.o2.formR
                obtain ⟨M3, H3, rfl, -, -⟩ := Lr.o3.formR
                obtain ⟨y0, y1, y2, y3, rfl, -⟩ := Oz.it
                obtain ⟨⟨N0, l0, rfl⟩, ⟨N1, l1, rfl⟩, ⟨N2, l2, rfl⟩, ⟨N3, l3, rfl⟩⟩ := Oz.shapes
                go_upto_region 37 with fail
                have hK0 : Below w22.heap.size w22 w22 := Below.refl _ _
                have XR := Own.box2 K (planC M0 M1 M2 M3 r.n0 H0 r.n1 H1 r.n2 H2 r.n3 H3 r.l r.p r.t) 32
                have hK1 := hK0.alloc hK0.size (.cells (planC M0 M1 M2 M3 r.n0 H0 r.n1 H1 r.n2 H2 r.n3 H3 r.l r.p r.t) 32)
                have XZ := Own.box2 (K.trans (hK1.mono K.size)) (stC N0 N1 N2 N3 z.pods.length l0 z.mnts.length l1 z.devs.length l2 z.lks.length l3 z.ph z.co z.ck z.bo z.ba z.lb z.gd z.pr) 38
                have hK2 := hK1.alloc hK1.size (.cells (stC N0 N1 N2 N3 z.pods.length l0 z.mnts.length l1 z.devs.length l2 z.lks.length l3 z.ph z.co z.ck z.bo z.ba z.lb z.gd z.pr) 38)
                replace XR := XR.alloc (.cells (stC N0 N1 N2 N3 z.pods.length l0 z.mnts.length l1 z.devs.length l2 z.lks.length l3 z.ph z.co z.ck z.bo z.ba z.lb z.gd z.pr) 38)
                have hb := hK2
                replace K := K.trans (hb.mono K.size)
                replace Lq := Lq.below hb
                replace Ou := Ou.below hb
                replace XQ := XQ.step hb
                replace XU := XU.step hb
                replace Lr := Lr.below hb
                replace Oz := Oz.below hb
                clear hb hK0 hK1 hK2
                try rw [heap_size_alloc_] at XZ
                generalize ((w22.alloc (.cells (planC M0 M1 M2 M3 r.n0 H0 r.n1 H1 r.n2 H2 r.n3 H3 r.l r.p r.t) 32)).alloc (.cells (stC N0 N1 N2 N3 z.pods.length l0 z.mnts.length l1 z.devs.length l2 z.lks.length l3 z.ph z.co z.ck z.bo z.ba z.lb z.gd z.pr) 38)) = w23 at K Lq Ou XQ XU Lr Oz XR XZ ⊢
                have hzw23 := XR.z
                generalize hww23 : w22.heap.size = B2 at XR XZ hzw23 ⊢
                refine wp_region_noPanic ?_
                refine wp_region_held_drew (S := fun W => (∀ o, W.cell? ⟨B1, o, none⟩ = (planC U0 U1 U2 U3 q.n0 G0 q.n1 G1 q.n2 G2 q.n3 G3 q.l q.p q.t)[o]?) ∧ (∀ o, W.cell? ⟨B1 + 1, o, none⟩ = (stC I0 I1 I2 I3 u.pods.length j0 u.mnts.length j1 u.devs.length j2 u.lks.length j3 u.ph u.co u.ck u.bo u.ba u.lb u.gd u.pr)[o]?) ∧ (∀ o, W.cell? ⟨B2, o, none⟩ = (planC M0 M1 M2 M3 r.n0 H0 r.n1 H1 r.n2 H2 r.n3 H3 r.l r.p r.t)[o]?) ∧ (∀ o, W.cell? ⟨B2 + 1, o, none⟩ = (stC N0 N1 N2 N3 z.pods.length l0 z.mnts.length l1 z.devs.length l2 z.lks.length l3 z.ph z.co z.ck z.bo z.ba z.lb z.gd z.pr)[o]?)) (by kernel_rfl) (⟨XQ.drew.C, XU.drew.C, XR.drew.C, XZ.drew.C⟩) (fun _ => ?_)
                replace K := K.drew
                replace Lq := Lq.below (Below.refl _ _).drew
                replace Ou := Ou.below (Below.refl _ _).drew
                replace XQ := XQ.drew
                replace XU := XU.drew
                replace Lr := Lr.below (Below.refl _ _).drew
                replace Oz := Oz.below (Below.refl _ _).drew
                replace XR := XR.drew
                replace XZ := XZ.drew
                generalize w23.drew = v0 at K Lq Ou XQ XU Lr Oz XR XZ ⊢
                refine wpAnyH_take (i := 0) (v := ?_) rfl (by kernel_rfl) (by kernel_rfl) (by kernel_rfl) (fun _ _ _ h => h) (Or.inl ⟨by rfl, ?_⟩) ⟨XQ.C, XU.C, XR.C, XZ.C⟩ ?_
                rotate_left 1
                · intro w hSw
                  obtain ⟨hs1, hs2, hs3, hs4⟩ := hSw
                  go_simp
                  try with_reducible rfl
                change wpAnyH _ _ _ _ _ _ _ (Act.put _ (some 131) _) _
                dsimp only [Act.put]
                refine wpAnyH_take (i := 1) (v := ?_) rfl (by kernel_rfl) (by kernel_rfl) (by kernel_rfl) (fun _ _ _ h => h) (Or.inl ⟨by rfl, ?_⟩) ⟨XQ.C, XU.C, XR.C, XZ.C⟩ ?_
                rotate_left 1
                · intro w hSw
                  obtain ⟨hs1, hs2, hs3, hs4⟩ := hSw
                  go_simp
                  try with_reducible rfl
                change wpAnyH _ _ _ _ _ _ _ (Act.put _ (some 132) _) _
                dsimp only [Act.put]
                refine wpAnyH_take (i := 2) (v := ?_) rfl (by kernel_rfl) (by kernel_rfl) (by kernel_rfl) (fun _ _ _ h => h) (Or.inl ⟨by rfl, ?_⟩) ⟨XQ.C, XU.C, XR.C, XZ.C⟩ ?_
                rotate_left 1
                · intro w hSw
                  obtain ⟨hs1, hs2, hs3, hs4⟩ := hSw
                  go_simp
                  try with_reducible rfl
                change wpAnyH _ _ _ _ _ _ _ (Act.put _ (some 133) _) _
                dsimp only [Act.put]
                refine wpAnyH_take (i := 4) (v := ?_) rfl (by kernel_rfl) (by kernel_rfl) (by kernel_rfl) (fun _ _ _ h => h) (Or.inl ⟨by rfl, ?_⟩) ⟨XQ.C, XU.C, XR.C, XZ.C⟩ ?_
                rotate_left 1
                · intro w hSw
                  obtain ⟨hs1, hs2, hs3, hs4⟩ := hSw
                  go_simp
                  try with_reducible rfl
                change wpAnyH _ _ _ _ _ _ _ (Act.put _ (some 135) _) _
                dsimp only [Act.put]
                refine wpAnyH_take (i := 5) (v := ?_) rfl (by kernel_rfl) (by kernel_rfl) (by kernel_rfl) (fun _ _ _ h => h) (Or.inl ⟨by rfl, ?_⟩) ⟨XQ.C, XU.C, XR.C, XZ.C⟩ ?_
                rotate_left 1
                · intro w hSw
                  obtain ⟨hs1, hs2, hs3, hs4⟩ := hSw
                  go_simp
                  try with_reducible rfl
                change wpAnyH _ _ _ _ _ _ _ (Act.put _ (some 136) _) _
                dsimp only [Act.put]
                refine wpAnyH_take (i := 6) (v := ?_) rfl (by kernel_rfl) (by kernel_rfl) (by kernel_rfl) (fun _ _ _ h => h) (Or.inl ⟨by rfl, ?_⟩) ⟨XQ.C, XU.C, XR.C, XZ.C⟩ ?_
                rotate_left 1
                · intro w hSw
                  obtain ⟨hs1, hs2, hs3, hs4⟩ := hSw
                  go_simp
                  try with_reducible rfl
                change wpAnyH _ _ _ _ _ _ _ (Act.put _ (some 137) _) _
                dsimp only [Act.put]
                refine wpAnyH_ready (rs := [3]) (by kernel_rfl) (by simp) ?_
                refine AllReadyH.cons rfl (fun K' hK => ?_) AllReadyH.nil
                go_simp
                go_at_call 8
                refine (implMayFree_any _ _ q u kp v0 Lq.plan Ou.st).mono ?_
                rintro e v1 ⟨rfl, hb⟩
                replace K := K.trans (hb.mono K.size)
                replace Lq := Lq.below hb
                replace Ou := Ou.below hb
                replace XQ := XQ.step hb
                replace XU := XU.step hb
                replace Lr := Lr.below hb
                replace Oz := Oz.below hb
                replace XR := XR.step hb
                replace XZ := XZ.step hb
                clear hb
                go_wp2_with fail
                refine hK.out _ _ ⟨XQ.C, XU.C, XR.C, XZ.C⟩ (fun _ => ?_)
                clear hK K'
                try (change wpAnyH _ _ _ _ _ _ _ (Act.put _ (some 134) _) _; dsimp only [Act.put])
                refine wpAnyH_ready (rs := [7]) (by kernel_rfl) (by simp) ?_
                refine AllReadyH.cons rfl (fun K' hK => ?_) AllReadyH.nil
                go_simp
                go_at_call 13
                refine (mayFree_any _ _ q u kp v1 Lq.plan Ou.st).mono ?_
                rintro e v2 ⟨rfl, hb⟩
                replace K := K.trans (hb.mono K.size)
                replace Lq := Lq.below hb
                replace Ou := Ou.below hb
                replace XQ := XQ.step hb
                replace XU := XU.step hb
                replace Lr := Lr.below hb
                replace Oz := Oz.below hb
                replace XR := XR.step hb
                replace XZ := XZ.step hb
                clear hb
                go_wp2_with fail
                refine hK.out _ _ ⟨XQ.C, XU.C, XR.C, XZ.C⟩ (fun _ => ?_)
                clear hK K'
                try (change wpAnyH _ _ _ _ _ _ _ (Act.put _ (some 138) _) _; dsimp only [Act.put])
                refine wpAnyH_ready (rs := [8]) (by kernel_rfl) (by simp) ?_
                refine AllReadyH.cons rfl (fun K' hK => ?_) AllReadyH.nil
                go_simp
                refine hK.out _ _ ⟨XQ.C, XU.C, XR.C, XZ.C⟩ (fun _ => ?_)
                clear hK K'
                try (change wpAnyH _ _ _ _ _ _ _ (Act.put _ (some 139) _) _; dsimp only [Act.put])
                refine wpAnyH_ready (rs := [9]) (by kernel_rfl) (by simp) ?_
                refine AllReadyH.cons rfl (fun K' hK => ?_) AllReadyH.nil
                go_simp
                refine hK.out _ _ ⟨XQ.C, XU.C, XR.C, XZ.C⟩ (fun _ => ?_)
                clear hK K'
                try (change wpAnyH _ _ _ _ _ _ _ (Act.put _ (some 140) _) _; dsimp only [Act.put])
                refine wpAnyH_take (i := 10) (v := ?_) rfl (by kernel_rfl) (by kernel_rfl) (by kernel_rfl) (fun _ _ _ h => h) (Or.inl ⟨by rfl, ?_⟩) ⟨XQ.C, XU.C, XR.C, XZ.C⟩ ?_
                rotate_left 1
                · intro w hSw
                  obtain ⟨hs1, hs2, hs3, hs4⟩ := hSw
                  go_simp
                  try with_reducible rfl
                change wpAnyH _ _ _ _ _ _ _ (Act.put _ (some 141) _) _
                dsimp only [Act.put]
                refine wpAnyH_take (i := 11) (v := ?_) rfl (by kernel_rfl) (by kernel_rfl) (by kernel_rfl) (fun _ _ _ h => h) (Or.inl ⟨by rfl, ?_⟩) ⟨XQ.C, XU.C, XR.C, XZ.C⟩ ?_
                rotate_left 1
                · intro w hSw
                  obtain ⟨hs1, hs2, hs3, hs4⟩ := hSw
                  go_simp
                  try with_reducible rfl
                change wpAnyH _ _ _ _ _ _ _ (Act.put _ (some 142) _) _
                dsimp only [Act.put]
                refine wpAnyH_take (i := 12) (v := ?_) rfl (by kernel_rfl) (by kernel_rfl) (by kernel_rfl) (fun _ _ _ h => h) (Or.inl ⟨by rfl, ?_⟩) ⟨XQ.C, XU.C, XR.C, XZ.C⟩ ?_
                rotate_left 1
                · intro w hSw
                  obtain ⟨hs1, hs2, hs3, hs4⟩ := hSw
                  go_simp
                  try with_reducible rfl
                change wpAnyH _ _ _ _ _ _ _ (Act.put _ (some 143) _) _
                dsimp only [Act.put]
                refine wpAnyH_take (i := 14) (v := ?_) rfl (by kernel_rfl) (by kernel_rfl) (by kernel_rfl) (fun _ _ _ h => h) (Or.inl ⟨by rfl, ?_⟩) ⟨XQ.C, XU.C, XR.C, XZ.C⟩ ?_
                rotate_left 1
                · intro w hSw
                  obtain ⟨hs1, hs2, hs3, hs4⟩ := hSw
                  go_simp
                  try with_reducible rfl
                change wpAnyH _ _ _ _ _ _ _ (Act.put _ (some 145) _) _
                dsimp only [Act.put]
                refine wpAnyH_take (i := 15) (v := ?_) rfl (by kernel_rfl) (by kernel_rfl) (by kernel_rfl) (fun _ _ _ h => h) (Or.inl ⟨by rfl, ?_⟩) ⟨XQ.C, XU.C, XR.C, XZ.C⟩ ?_
                rotate_left 1
                · intro w hSw
                  obtain ⟨hs1, hs2, hs3, hs4⟩ := hSw
                  go_simp
                  try with_reducible rfl
                change wpAnyH _ _ _ _ _ _ _ (Act.put _ (some 146) _) _
                dsimp only [Act.put]
                refine wpAnyH_take (i := 16) (v := ?_) rfl (by kernel_rfl) (by kernel_rfl) (by kernel_rfl) (fun _ _ _ h => h) (Or.inl ⟨by rfl, ?_⟩) ⟨XQ.C, XU.C, XR.C, XZ.C⟩ ?_
                rotate_left 1
                · intro w hSw
                  obtain ⟨hs1, hs2, hs3, hs4⟩ := hSw
                  go_simp
                  try with_reducible rfl
                change wpAnyH _ _ _ _ _ _ _ (Act.put _ (some 147) _) _
                dsimp only [Act.put]
                refine wpAnyH_ready (rs := [13]) (by kernel_rfl) (by simp) ?_
                refine AllReadyH.cons rfl (fun K' hK => ?_) AllReadyH.nil
                rw [if_pos (by rfl)]
                go_simp
                go_at_call 10
                refine (implMayGive_any _ _ r z kg v2 Lr.plan Oz.st).mono ?_
                rintro e v3 ⟨rfl, hb⟩
                replace K := K.trans (hb.mono K.size)
                replace Lq := Lq.below hb
                replace Ou := Ou.below hb
                replace XQ := XQ.step hb
                replace XU := XU.step hb
                replace Lr := Lr.below hb
                replace Oz := Oz.below hb
                replace XR := XR.step hb
                replace XZ := XZ.step hb
                clear hb
                go_wp2_with fail
                refine hK.out _ _ ⟨XQ.C, XU.C, XR.C, XZ.C⟩ (fun _ => ?_)
                clear hK K'
                try (change wpAnyH _ _ _ _ _ _ _ (Act.put _ (some 144) _) _; dsimp only [Act.put])
                refine wpAnyH_ready (rs := [17]) (by kernel_rfl) (by simp) ?_
                refine AllReadyH.cons rfl (fun K' hK => ?_) AllReadyH.nil
                rw [if_pos (by rfl)]
                go_simp
                go_at_call 14
                refine (mayGive_any _ _ r z kg v3 Lr.plan Oz.st).mono ?_
                rintro e v4 ⟨rfl, hb⟩
                replace K := K.trans (hb.mono K.size)
                replace Lq := Lq.below hb
                replace Ou := Ou.below hb
                replace XQ := XQ.step hb
                replace XU := XU.step hb
                replace Lr := Lr.below hb
                replace Oz := Oz.below hb
                replace XR := XR.step hb
                replace XZ := XZ.step hb
                clear hb
                go_wp2_with fail
                refine hK.out _ _ ⟨XQ.C, XU.C, XR.C, XZ.C⟩ (fun _ => ?_)
                clear hK K'
                try (change wpAnyH _ _ _ _ _ _ _ (Act.put _ (some 148) _) _; dsimp only [Act.put])
                refine wpAnyH_ready (rs := [18]) (by kernel_rfl) (by simp) ?_
                refine AllReadyH.cons rfl (fun K' hK => ?_) AllReadyH.nil
                rw [if_pos (by rfl)]
                go_simp
                refine hK.out _ _ ⟨XQ.C, XU.C, XR.C, XZ.C⟩ (fun _ => ?_)
                clear hK K'
                try (change wpAnyH _ _ _ _ _ _ _ (Act.put _ (some 149) _) _; dsimp only [Act.put])
                refine wpAnyH_ready (rs := [19]) (by kernel_rfl) (by simp) ?_
                refine AllReadyH.cons rfl (fun K' hK => ?_) AllReadyH.nil
                go_simp
                refine hK.out _ _ ⟨XQ.C, XU.C, XR.C, XZ.C⟩ (fun _ => ?_)
                clear hK K'
                try (change wpAnyH _ _ _ _ _ _ _ (Act.put _ (some 150) _) _; dsimp only [Act.put])
                refine wpAnyH_ready (rs := [20]) (by kernel_rfl) (by simp) ?_
                refine AllReadyH.cons rfl (fun K' hK => ?_) AllReadyH.nil
                go_simp
                refine hK.out _ _ ⟨XQ.C, XU.C, XR.C, XZ.C⟩ (fun _ => ?_)
                clear hK K'
                try (change wpAnyH _ _ _ _ _ _ _ (Act.put _ (some 2) _) _; dsimp only [Act.put])
                refine wpAnyH_done (by kernel_rfl) ?_ _
                refine NoPanic.normal ?_
                go_wp2_with fail
                go_ret
                exact ⟨ret_bool (by simp), K⟩
end Go.Proofs.YtmcafdhffkhcgaaGreat
