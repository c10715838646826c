/-
  The program's ReadRecs.
-/
import Derived.Test.YtcpmkbemkhacnaaDoorBf
set_option linter.unusedVariables false
namespace Go.Proofs.YtcpmkbemkhacnaaDoor
open Go.RowKit

/-- Block g holds N whole numbers, as x tells, and no more; its elements are of type T. -/
structure CellsT (T : TypeId) (w : World) (g N : Nat) (x : Nat → Int) : Prop where
  it : ∃ cur, w.heap[g]? = some (.cells cur T (0, 0)) ∧ cur.size = N ∧ ∀ j, j < N → cur[j]? = some (.int .i64 (x j))
theorem CellsT.lt {T : TypeId} {w : World} {g N : Nat} {x : Nat → Int} (h : CellsT T w g N x) : g < w.heap.size := by
  obtain ⟨cur, hh, _⟩ := h
  exact (Array.getElem?_eq_some_iff.1 hh).1
theorem CellsT.at_ {T : TypeId} {w : World} {g N : Nat} {x : Nat → Int} (h : CellsT T w g N x) {j : Nat} (hj : j < N) : w.cell? ⟨g, j, none⟩ = some (.int .i64 (x j)) ∧ w.frozen? ⟨g, j, none⟩ = false := by
  obtain ⟨cur, hh, _, hc⟩ := h
  exact ⟨(cell_of_row _ _ _ _ _ _ hh).trans (hc j hj), frozen_of_row _ _ _ _ _ hh⟩
theorem CellsT.set {T : TypeId} {w : World} {g N : Nat} {x : Nat → Int} (h : CellsT T w g N x) (i : Nat) (v : Int) : CellsT T (w.setCell ⟨g, i, none⟩ (.int .i64 v)) g N (fun j => if j = i then v else x j) := by
  obtain ⟨cur, hh, hs, hc⟩ := h
  refine ⟨cur.setIfInBounds i (.int .i64 v), heap_setCell_same w g i cur _ _ hh, by simp [hs], fun j hj => ?_⟩
  by_cases e : j = i
  · subst e
    simp [hs, hj]
  · rw [Array.getElem?_setIfInBounds_ne (fun he => e he.symm), hc j hj, if_neg e]
theorem CellsT.congr {T : TypeId} {w : World} {g N : Nat} {x y : Nat → Int} (h : CellsT T w g N x) (e : ∀ j, j < N → x j = y j) : CellsT T w g N y := by
  obtain ⟨cur, hh, hs, hc⟩ := h
  exact ⟨cur, hh, hs, fun j hj => by rw [hc j hj, e j hj]⟩
theorem CellsT.go {T : TypeId} {w w' : World} {g N : Nat} {x : Nat → Int} (h : CellsT T w g N x) (hb : Below w.heap.size w w') : CellsT T w' g N x := by
  have hl := h.lt
  obtain ⟨cur, hh, hs, hc⟩ := h
  exact ⟨cur, (hb.block g hl).trans hh, hs, hc⟩
theorem CellsT.own {T : TypeId} {w : World} {B g n k : Nat} {xs : List Value} (h : ∃ x, CellsT T w g (n * k) x ∧ ∀ j, j < n * k → xs[j]? = some (.int .i64 (x j))) (hl : xs.length = n * k) (hB : B ≤ g) (hn : n ≤ maxLen) :
    w.ownsRow B T k (.slice (some ⟨g, 0, none⟩) n n) n xs := by
  obtain ⟨x, ⟨cur, hh, hs, hc⟩, hx⟩ := h
  refine ⟨hl, .inr ⟨g, n, cur, rfl, hB, hh, Nat.le_refl _, hn, hs, ?_⟩⟩
  rw [List.take_of_length_le (by simp [hs])]
  apply List.ext_getElem?
  intro j
  by_cases hj : j < n * k
  · rw [hx j hj, Array.getElem?_toList, hc j hj]
  · rw [List.getElem?_eq_none (by simp [hs]; omega), List.getElem?_eq_none (by omega)]
theorem CellsT.made {T : TypeId} {w : World} {B g n k : Nat} {z : Array Value} (hk : 0 < k) (hz : z = Array.replicate k (.int .i64 0))
    (h : w.ownsRow B T k (.slice (some ⟨g, 0, none⟩) n n) n (madeCells z (n * k)).toList) : CellsT T w g (n * k) (fun _ => 0) := by
  rcases h.2 with ⟨h1, _⟩ | ⟨g', cap, cur, h1, _, h2, _, _, h5, h6⟩
  · cases h1
  · injection h1 with h1 _ h3
    injection h1 with h1
    injection h1 with h1 _ _
    subst h1 h3
    refine ⟨cur, h2, h5, fun j hj => ?_⟩
    rw [List.take_of_length_le (by simp [h5])] at h6
    rw [← Array.getElem?_toList, h6, hz]
    simp [madeCells, hj]
    rw [getElem!_pos _ _ (by simp; exact Nat.mod_lt _ hk)]
    simp

/-- What ReadRecs answers of the bytes L. -/
def Read (L : List Nat) (w : World) (e : Ending) (w' : World) : Prop :=
  ∃ v, e = .returned (.tuple #[v, .bool (readN L).isSome]) ∧ OR w' w.heap.size v ((readN L).getD []) ∧ Below w.heap.size w w'
theorem readN_no {L : List Nat} (h : readN L = none) : (readN L).isSome = false ∧ (readN L).getD [] = [] := by rw [h]; exact ⟨rfl, rfl⟩
theorem readN_yes {L : List Nat} {l : List RecD} (h : readN L = some l) : (readN L).isSome = true ∧ (readN L).getD [] = l := by rw [h]; exact ⟨rfl, rfl⟩
theorem Rt.keeps {S : Nat → Prop} {w w' : World} {B : Nat} {v : Value} {l : List RecD} (h : Rt w B v l) (hk : Keeps S w w') (hB : B ≤ w.heap.size) (hS : ∀ b, b < B → ¬ S b) : Rt w' B v l :=
  h.below (hk.below (B := B) hB hS) (Nat.le_refl _)
theorem OR.keeps {S : Nat → Prop} {w w' : World} {B : Nat} {v : Value} {l : List RecD} (h : OR w B v l) (hk : Keeps S w w') (hS : ∀ r, B ≤ r → ¬ S r) : OR w' B v l := by
  obtain ⟨hl, ho⟩ := h
  refine ⟨hl, ho.imp id ?_⟩
  rintro ⟨g, cap, cur, hv, hb', hh, rest⟩
  exact ⟨g, cap, cur, hv, hb', (hk.block g (Array.getElem?_eq_some_iff.1 hh).1 (hS g hb')).trans hh, rest⟩
theorem readD_len (L : List Nat) : ((readN L).getD []).length ≤ 80 := by
  cases h : readN L with
  | none => simp
  | some l =>
    show l.length ≤ 80
    unfold readN at h
    split at h
    · cases h
    · rename_i n r h1
      split at h
      · cases h
      · rename_i h80
        cases h2 : getRecs n r with
        | none => rw [h2] at h; cases h
        | some q =>
          rw [h2] at h
          have hn : ∀ (n : Nat) (r : List Nat) (q : List RecD × List Nat), getRecs n r = some q → q.1.length = n := fun n => by
            induction n with
            | zero => intro r q h; cases h; rfl
            | succ n ih =>
              intro r q h
              rw [getRecs_succ] at h
              cases h1 : getRec r with
              | none => rw [h1] at h; cases h
              | some p =>
                rw [h1, Option.bind_some] at h
                cases h3 : getRecs n p.2 with
                | none => rw [h3] at h; cases h
                | some s =>
                  rw [h3] at h
                  cases h
                  simp [ih _ _ h3]
          have := hn n r q h2
          obtain ⟨l', r'⟩ := q
          dsimp only at h
          split at h
          · cases h; dsimp only at this; omega
          · cases h
theorem cellR_snoc (l : List RecD) (r : RecD) (j : Nat) : cellR (l ++ [r]) j = if j = l.length * 3 + 2 then r.b else if j = l.length * 3 + 1 then r.a else if j = l.length * 3 then r.k else cellR l j := by
  unfold cellR
  rw [flat_append]
  have hl := flat_length l
  by_cases h : j < l.length * 3
  · rw [if_neg (by omega), if_neg (by omega), if_neg (by omega)]
    simp [List.getD, List.getElem?_append_left (show j < (flat l).length by omega)]
  · have e : flat [r] = [r.k, r.a, r.b] := rfl
    rw [e, List.getD_eq_getElem?_getD, List.getElem?_append_right (by omega), hl]
    by_cases h3 : j < l.length * 3 + 3
    · rcases (by omega : j = l.length * 3 ∨ j = l.length * 3 + 1 ∨ j = l.length * 3 + 2) with rfl | rfl | rfl
      · rw [if_neg (by omega), if_neg (by omega), if_pos rfl]; simp
      · rw [if_neg (by omega), if_pos rfl]; simp
      · rw [if_pos rfl]; simp
    · rw [if_neg (by omega), if_neg (by omega), if_neg (by omega), List.getElem?_eq_none (by simp; omega), List.getD_eq_getElem?_getD, List.getElem?_eq_none (by omega)]
theorem or_empty_at {w : World} {B g : Nat} (hB : B ≤ w.heap.size) (hg : w.heap.size = g) : OR (w.alloc (.cells #[] 30)) B (.slice (some ⟨g, 0, none⟩) 0 0) [] := by
  subst hg
  exact OR.empty hB
theorem below_set3 {B : Nat} {w w' : World} {g i : Nat} {a b c : Value} (h : Below B w w') (hg : B ≤ g) : Below B w (((w'.setCell ⟨g, i, none⟩ a).setCell ⟨g, i + 1, none⟩ b).setCell ⟨g, i + 2, none⟩ c) :=
  ((h.setCell (p := ⟨g, i, none⟩) hg a).setCell (p := ⟨g, i + 1, none⟩) hg b).setCell (p := ⟨g, i + 2, none⟩) hg c

set_option maxRecDepth 100000 in
set_option maxHeartbeats 4000000 in
theorem readRecs_any (v : Value) (L : List Nat) (w : World) (hN : Names w) (h : Bt w w.heap.size v L) :
    Calls Tryd.prog 64 #[v] w (Read L w) := by
  have H := Lib.hid h
  have HN := Lib.hid hN
  clear h hN
  obtain ⟨i0, hi, hz0, hz1, hz2⟩ := info_parts info_rec
  have HI := Lib.hid hi
  have HZ0 := Lib.hid hz0
  have HZ1 := Lib.hid hz1
  have HZ2 := Lib.hid hz2
  clear hi hz0 hz1 hz2
  go_enter Tryd.func64, Tryd.ntmps64
  go_wp2_with fail
  refine (readNumber_any v L w w.heap.size H.out (Nat.le_refl _)).mono ?_
  rintro e w1 ⟨n, v1, ok, rfl, hb1, hor⟩
  have HOR := Lib.hid hor
  clear hor
  cases ok
  · have hno : readN L = none := by rw [readN_num (m := 128 ^ 3) (by decide), (HOR.out.resolve_left (fun h => by cases h.1)).2]; rfl
    have HNO := Lib.hid (readN_no hno)
    clear hno HOR
    go_wp2
    go_ret2
    exact ⟨_, ret_two rfl (bool_eq HNO.out.1.symm), by rw [HNO.out.2]; exact OR.empty hb1.size, hb1.alloc hb1.size _⟩
  · obtain ⟨R, hnum, hbt⟩ := (HOR.out.resolve_right (fun h => by cases h.1)).2
    have HBT := Lib.hid hbt
    have hrd := readN_num (m := 128 ^ 3) (by decide) L
    rw [hnum] at hrd
    have HRD := Lib.hid hrd
    clear hnum hbt HOR hrd
    by_cases h80 : 80 < n
    · have hno : readN L = none := by rw [HRD.out]; simp [h80]
      have HNO := Lib.hid (readN_no hno)
      clear hno
      go_wp2
      go_ret2
      exact ⟨_, ret_two rfl (bool_eq HNO.out.1.symm), by rw [HNO.out.2]; exact OR.empty hb1.size, hb1.alloc hb1.size _⟩
    · have hrd : readN L = (getRecs n R).bind fun q => if q.2 = [] then some q.1 else none := by rw [HRD.out]; simp [h80]
      have HRD := Lib.hid hrd
      clear hrd
      go_wp2_with (at_make; refine wpList_make_full _ rfl _ _ 31 rfl w.heap.size 30 i0 (.agg #[.int .i64 0, .int .i64 0, .int .i64 0]) 3 Tryd.underlying31 HI.out HZ0.out HZ1.out _ _ _ _ n rfl rfl rfl rfl ?b2 ?b3 hb1.size ?_)
      case b2 => rw [HZ2.out]; omega
      case b3 => unfold maxLen; omega
      intro w2 hown hgrow
      have K12 : Below w1.heap.size w1 w2 := (Below.refl _ _).grown hgrow (Nat.le_refl _) (fun k hk => by cases hk)
      have K2 := hb1.trans (K12.mono hb1.size)
      have C2 := CellsT.made (by omega) rfl hown
      have B2 := HBT.out.below K12 hb1.size
      have hg : w.heap.size ≤ w1.heap.size := hb1.size
      clear hown hgrow K12 hb1 HBT
      generalize w1.heap.size = g at *
      have hn80 : n ≤ 80 := by omega
      clear h80
      go_wp2_with fail
      go_loopw [5, 26] (fun s5 s26 wr => ∃ (k : Nat) (done : List RecD) (M : List Nat), k ≤ n ∧ s26 = .int .i64 k ∧ done.length = k ∧ getRecs n R = (getRecs (n - k) M).map (fun q => (done ++ q.1, q.2)) ∧
        Bt wr w.heap.size s5 M ∧ CellsT 30 wr g (n * 3) (cellR done) ∧ Below w.heap.size w wr) (fun _ s26 _ => n - (intOf s26).toNat)
      case atStart => exact ⟨0, [], R, Nat.zero_le _, rfl, rfl, by simp, B2, C2.congr (fun j _ => by simp [cellR, flat]), K2⟩
      case round =>
        clear K2 C2 B2
        obtain ⟨k, done, M, hk, rfl, hlen, hget, hM, C, K⟩ := hrel
        have HG := Lib.hid hget
        have HM := Lib.hid hM
        have HC := Lib.hid C
        have HK := Lib.hid K
        have HL := Lib.hid hlen
        have hgl := C.lt
        clear hget hM C K hlen
        by_cases hlt : k < n
        · go_wp2_with fail
          refine (readRec_any u5 M wr w.heap.size (HN.out.go HK.out) HM.out HK.out.size).mono ?_
          rintro e w3 ⟨r, v3, ok, rfl, hb3, hor⟩
          have HOR := Lib.hid hor
          have C3 := HC.out.go hb3
          have HC3 := Lib.hid C3
          obtain ⟨t0, f0⟩ := C3.at_ (j := k * 3) (by omega)
          obtain ⟨t1, f1⟩ := C3.at_ (j := k * 3 + 1) (by omega)
          obtain ⟨t2, f2⟩ := C3.at_ (j := k * 3 + 2) (by omega)
          generalize cellR done (k * 3) = y0 at t0
          generalize cellR done (k * 3 + 1) = y1 at t1
          generalize cellR done (k * 3 + 2) = y2 at t2
          have HK3 := Lib.hid (HK.out.trans (hb3.mono HK.out.size))
          have hs3 := hb3.size
          clear hor C3 hb3 HC HK HM
          obtain ⟨rk, ra, rb⟩ := r
          have hw : n - k = (n - (k + 1)) + 1 := by omega
          cases ok
          · have hno : readN L = none := by
              rw [HRD.out, HG.out, hw, getRecs_succ, (HOR.out.resolve_left (fun h => by cases h.1)).2]
              rfl
            have HNO := Lib.hid (readN_no hno)
            clear hno hw
            unfold recV
            dsimp only
            go_wp2
            go_ret2
            have KS := below_set3 HK3.out (i := k * 3) (a := .int .i64 rk) (b := .int .i64 ra) (c := .int .i64 rb) hg
            exact ⟨_, ret_two rfl (bool_eq HNO.out.1.symm), by rw [HNO.out.2]; exact or_empty_at KS.size (by simp [World.setCell]), KS.alloc KS.size _⟩
          · obtain ⟨R2, hrec, hbt⟩ := (HOR.out.resolve_right (fun h => by cases h.1)).2
            have HREC := Lib.hid hrec
            have HBT := Lib.hid hbt
            clear hrec hbt hw
            unfold recV
            dsimp only
            go_wp2
            have KS := below_set3 HK3.out (i := k * 3) (a := .int .i64 rk) (b := .int .i64 ra) (c := .int .i64 rb) hg
            have KB : Below w.heap.size w3 _ := below_set3 (Below.refl w.heap.size w3) (i := k * 3) (a := .int .i64 rk) (b := .int .i64 ra) (c := .int .i64 rb) hg
            refine ⟨⟨k + 1, done ++ [⟨rk, ra, rb⟩], R2, by omega, by go_num, by simp [HL.out], ?_, HBT.out.below KB (Nat.le_refl _), ?_, KS⟩, by simp [intOf]; omega⟩
            · rw [HG.out, show n - k = (n - (k + 1)) + 1 by omega, getRecs_succ, HREC.out, Option.bind_some]
              dsimp only
              cases getRecs (n - (k + 1)) R2 with
              | none => rfl
              | some q => simp
            · refine (((HC3.out.set (k * 3) rk).set (k * 3 + 1) ra).set (k * 3 + 2) rb).congr fun j hj => ?_
              rw [cellR_snoc, HL.out]
        · obtain rfl : k = n := by omega
          obtain ⟨⟨A, c, rfl, hcap, -⟩, hml, -⟩ := HM.out
          have hend : readN L = if M = [] then some done else none := by
            rw [HRD.out, HG.out, Nat.sub_self, getRecs_zero]
            simp
          have HEND := Lib.hid hend
          have hml' : M.length ≤ 2 ^ 63 - 1 := by unfold maxLen at hml; omega
          clear hend hml
          by_cases hme : M = []
          · subst hme
            have hr : readN L = some done := by rw [HEND.out, if_pos rfl]
            have HR := Lib.hid (readN_yes hr)
            clear hr
            go_wp2
            go_ret2
            refine ⟨_, ret_two rfl (bool_eq HR.out.1.symm), ?_, HK.out⟩
            rw [HR.out.2]
            have ho := CellsT.own (B := w.heap.size) (n := k) (k := 3) (xs := recVs done) ⟨_, HC.out, fun j hj => recVs_get (by rw [HL.out]; exact hj)⟩ (by simp [recVs, flat_length, HL.out]) hg (by unfold maxLen; omega)
            have hl := HL.out
            show World.ownsRow _ _ _ _ _ done.length _
            rw [hl]
            exact ho
          · have hpos : 0 < M.length := by
              cases M with
              | nil => exact absurd rfl hme
              | cons a b => simp
            have hr : readN L = none := by rw [HEND.out, if_neg hme]
            have HR := Lib.hid (readN_no hr)
            clear hr hme
            go_wp2
            go_ret2
            exact ⟨_, ret_two rfl (bool_eq HR.out.1.symm), by rw [HR.out.2]; exact OR.empty HK.out.size, HK.out.alloc HK.out.size _⟩
end Go.Proofs.YtcpmkbemkhacnaaDoor
