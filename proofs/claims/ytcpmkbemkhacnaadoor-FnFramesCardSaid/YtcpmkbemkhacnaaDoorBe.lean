/-
  RecBytes of both sides.
-/
import Derived.Test.YtcpmkbemkhacnaaDoorBd
set_option linter.unusedVariables false
namespace Go.Proofs.YtcpmkbemkhacnaaDoor
open Go.RowKit

set_option maxHeartbeats 400000 in
theorem allBelow_closure (g : Nat) (cv : Value) (n : Nat) (f : Nat → Bool) (w : World) (hn : n ≤ maxLen)
    (hg : ∀ (x y : Value) (wr : World), (callFunc g #[x, y]).run Tryd.prog wr = .ok (.enter g #[x, y]) wr)
    (H : Hid (∀ i, i < n → ∀ wr, Below w.heap.size w wr → Calls Tryd.prog g #[.int .i64 i, cv] wr fun e w' => e = .returned (.bool (f i)) ∧ Below wr.heap.size wr w')) :
    Calls Tryd.prog 60 #[.int .i64 n, .func (.func g) #[] #[cv]] w fun e w' => e = .returned (.bool (allB n f)) ∧ Below w.heap.size w w' := by
  unfold maxLen at hn
  go_enter Tryd.func60, Tryd.ntmps60
  go_wp2
  go_loopw [7] (fun i wr => ∃ k : Nat, k ≤ n ∧ i = .int .i64 k ∧ (∀ j, j < k → f j = true) ∧ Below w.heap.size w wr) (fun i _ => n - (intOf i).toNat)
  case atStart => exact ⟨0, Nat.zero_le _, rfl, fun j hj => absurd hj (by omega), Below.refl _ _⟩
  case round =>
    obtain ⟨k, hk, rfl, hall, hb⟩ := hrel
    have HA := Lib.hid hall
    clear hall
    by_cases hlt : k < n
    · have hf := H.out k hlt _ hb
      cases hv : f k
      · rw [hv] at hf
        have Hv := Lib.hid hv
        clear hv
        go_wp2_with (refine hf.mono ?_; rintro e w1 ⟨rfl, hb1⟩)
        go_ret
        exact ⟨ret_bool (allB_false hlt Hv.out).symm, hb.trans (hb1.mono hb.size)⟩
      · rw [hv] at hf
        have Hv := Lib.hid hv
        clear hv
        go_wp2_with (refine hf.mono ?_; rintro e w1 ⟨rfl, hb1⟩)
        go_roundw
        case rel =>
          refine ⟨k + 1, by omega, by go_num, fun j hj => ?_, hb.trans (hb1.mono hb.size)⟩
          by_cases h : j = k
          · rw [h]; exact Hv.out
          · exact HA.out j (by omega)
        case measure => simp [intOf]; omega
    · obtain rfl : k = n := by omega
      go_wp2
      go_ret
      exact ⟨ret_bool (allB_true.2 HA.out).symm, hb⟩

theorem enter_recsRightC (x y : Value) (wr : World) : (callFunc 61 #[x, y]).run Tryd.prog wr = .ok (.enter 61 #[x, y]) wr := by simp [go_sem]
set_option maxHeartbeats 400000 in
theorem recsRightC_any (v : Value) (l : List RecD) (g i : Nat) (w : World) (hN : Names w) (h : Rt w w.heap.size v l) (hg : ∀ o, w.cell? ⟨g, o, none⟩ = (#[v] : Array Value)[o]?) (hi : i < l.length) :
    Calls Tryd.prog 61 #[.int .i64 i, .pointer (some ⟨g, 0, none⟩)] w fun e w' => e = .returned (.bool (recOkB (recAt l i))) ∧ Below w.heap.size w w' := by
  have H := Lib.hid h
  have HN := Lib.hid hN
  obtain ⟨⟨A, c, rfl, -⟩, hl⟩ := h
  have hl' : l.length ≤ 2 ^ 63 - 1 := by unfold maxLen at hl; omega
  obtain ⟨b, off, rfl, hb, q0, q1, q2⟩ := H.out.cell hi
  have hg0 := hg 0
  simp at hg0
  clear hl hN hg
  generalize recAt l i = r at *
  go_enter Tryd.func61, Tryd.ntmps61
  go_wp2_with (go_at_call 62; refine (recOk_any r _ HN.out).mono ?_; rintro e w' ⟨rfl, hb1⟩)
  go_ret
  exact ⟨rfl, hb1⟩

/-- There are not too many, and all are right. -/
def writeB (l : List RecD) : Bool := decide (l.length ≤ 80) && allOk l
theorem allOk_at {l : List RecD} : allB l.length (fun i => recOkB (recAt l i)) = allOk l := by
  rw [Bool.eq_iff_iff, allB_true]
  unfold allOk
  rw [List.all_eq_true]
  constructor
  · intro h r hr
    obtain ⟨i, hi, rfl⟩ := List.getElem_of_mem hr
    have := h i hi
    simpa [recAt, List.getD, hi] using this
  · intro h i hi
    simpa [recAt, List.getD, hi] using h _ (List.getElem_mem hi)

set_option maxHeartbeats 400000 in
theorem recsRight_any (v : Value) (l : List RecD) (w : World) (hN : Names w) (h : Rt w w.heap.size v l) :
    Calls Tryd.prog 49 #[v] w fun e w' => e = .returned (.bool (writeB l)) ∧ Below w.heap.size w w' := by
  have H := Lib.hid h
  have HN := Lib.hid hN
  obtain ⟨⟨A, c, rfl, -⟩, hl⟩ := h
  have hl' : l.length ≤ 2 ^ 63 - 1 := by unfold maxLen at hl; omega
  have HL := Lib.hid hl
  have X := Own.box w #[.slice A l.length c] 31
  clear hN hl
  by_cases h80 : l.length ≤ 80
  · have HW : Hid (writeB l = allB l.length (fun i => recOkB (recAt l i))) := Lib.hid (by rw [allOk_at]; simp [writeB, h80])
    have hcall := allBelow_closure 61 (.pointer (some ⟨w.heap.size, 0, none⟩)) l.length (fun i => recOkB (recAt l i)) (w.alloc (.cells #[.slice A l.length c] 31)) HL.out enter_recsRightC
      (Lib.hid fun i hi wr hb => recsRightC_any _ l w.heap.size i wr ((HN.out.go X.K).go hb) ((H.out.go X.K).go hb) (X.step hb).C hi)
    have HC := Lib.hid hcall
    have HX := Lib.hid X
    clear hcall X
    go_enter Tryd.func49, Tryd.ntmps49
    go_wp2_with (go_at_call 60; refine HC.out.mono ?_; rintro e w' ⟨rfl, hb1⟩)
    go_ret
    exact ⟨ret_bool HW.out.symm, HX.out.K.trans (hb1.mono HX.out.K.size)⟩
  · have HW : Hid (writeB l = false) := Lib.hid (by simp [writeB, h80])
    have HX := Lib.hid X
    clear X
    go_enter Tryd.func49, Tryd.ntmps49
    go_wp2_with fail
    go_ret
    exact ⟨ret_bool HW.out.symm, HX.out.K⟩

/-- What is written of records, as bytes; none where they can't be. -/
def wroteN (l : List RecD) : List Nat := if writeB l then putN l.length ++ recsN l else []
theorem wroteN_yes {l : List RecD} (h : writeB l = true) : wroteN l = putN l.length ++ recsN l := if_pos h
theorem wroteN_no {l : List RecD} (h : writeB l = false) : wroteN l = [] := if_neg (by rw [h]; decide)
theorem recsN_take {l : List RecD} {k : Nat} (hk : k < l.length) : recsN (l.take (k + 1)) = recsN (l.take k) ++ recN (recAt l k) := by
  rw [List.take_succ_eq_append_getElem hk, recsN_append]
  simp [recsN, recAt, List.getD, hk]
theorem recN_len {r : RecD} (h : recOkB r = true) : (recN r).length ≤ 9 := by
  have := recOkB_true.1 h
  have h1 := putN_len3 (n := r.k.toNat) (by omega)
  have h2 := putN_len3 (n := r.a.toNat) (by omega)
  have h3 := putN_len3 (n := r.b.toNat) (by omega)
  simp only [recN, List.length_append]
  omega
theorem recsN_len {l : List RecD} (h : allOk l = true) : (recsN l).length ≤ 9 * l.length := by
  induction l with
  | nil => simp [recsN]
  | cons r l ih =>
    simp only [allOk, List.all_cons, Bool.and_eq_true] at h
    have h1 := recN_len h.1
    have h2 := ih h.2
    simp only [recsN, List.length_append, List.length_cons]
    omega
theorem writeB_true {l : List RecD} (h : writeB l = true) : l.length ≤ 80 ∧ allOk l = true := by simpa [writeB] using h
theorem wroteN_len (l : List RecD) : (wroteN l).length ≤ 723 := by
  cases h : writeB l
  · rw [wroteN_no h]; simp
  · obtain ⟨h1, h2⟩ := writeB_true h
    rw [wroteN_yes h, List.length_append]
    have := recsN_len h2
    have := putN_len3 (n := l.length) (by omega)
    omega
theorem allOk_get {l : List RecD} (h : allOk l = true) {k : Nat} (hk : k < l.length) : recOkB (recAt l k) = true := by
  rw [← allOk_at] at h
  exact allB_true.1 h k hk
/-- What RecBytes answers. -/
def Wrote (l : List RecD) (w : World) (e : Ending) (w' : World) : Prop :=
  ∃ v, e = .returned (.tuple #[v, .bool (writeB l)]) ∧ OB w' w.heap.size v (wroteN l) ∧ Below w.heap.size w w'

set_option maxRecDepth 100000 in
set_option maxHeartbeats 4000000 in
theorem recBytes_any (v : Value) (l : List RecD) (w : World) (hN : Names w) (h : Rt w w.heap.size v l) :
    Calls Tryd.prog 33 #[v] w (Wrote l w) := by
  have H := Lib.hid h
  have HN := Lib.hid hN
  obtain ⟨⟨A, c, rfl, -⟩, hl⟩ := h
  have hl' : l.length ≤ 2 ^ 63 - 1 := by unfold maxLen at hl; omega
  clear hN hl
  generalize hq : l.length = q at *
  have HQ := Lib.hid hq
  clear hq
  go_enter Tryd.func33, Tryd.ntmps33
  go_wp2_with fail
  refine (recsRight_any _ l _ HN.out H.out).mono ?_
  rintro e w1 ⟨rfl, hb1⟩
  cases hw : writeB l
  · have HW := Lib.hid hw
    clear hw
    go_wp2
    go_ret2
    refine ⟨_, ret_two rfl (bool_eq HW.out.symm), ?_, hb1.alloc hb1.size _⟩
    rw [wroteN_no HW.out]
    exact OB.empty hb1.size
  · have HW := Lib.hid hw
    obtain ⟨h80, hok⟩ := writeB_true hw
    rw [HQ.out] at h80
    have HOK := Lib.hid hok
    clear hw hok
    go_wp2_with fail
    have hs1 := hb1.size
    have O1 : OB (w1.alloc (.cells #[] 5)) w.heap.size (.slice (some ⟨w1.heap.size, 0, none⟩) 0 0) [] := OB.empty hs1
    have K1 := (hb1.alloc hs1 (.cells #[] 5)).alloc (by simp; omega) (.cells #[.int .i64 q] 2)
    refine (withNumbers_any _ [] [q] (w1.heap.size + 1) 1 w.heap.size _ (O1.below ((Below.refl _ _).alloc (Nat.le_refl _) _)) (by simp; omega) (by simp; omega) (by simp) (by simp) (by simp) (by simp [Value.ownBlock]) (fun j hj => ?_)).mono ?_
    · have hj : j = 0 := by simpa using hj
      subst hj
      simp
    rintro e w2 ⟨v2, rfl, O2, K2⟩
    have O2 : OB w2 w.heap.size v2 (putN q) := by simpa using O2
    have K2 := K1.trans K2
    clear O1 K1 hb1 hs1
    go_wp2_with fail
    go_loopw [4, 18] (fun s4 s18 wr => ∃ k : Nat, k ≤ q ∧ s18 = .int .i64 k ∧ OB wr w.heap.size s4 (putN q ++ recsN (l.take k)) ∧ Below w.heap.size w wr) (fun _ s18 _ => q - (intOf s18).toNat)
    case atStart => exact ⟨0, Nat.zero_le _, rfl, by simpa [recsN] using O2, K2⟩
    case round =>
      clear O2 K2
      obtain ⟨k, hk, rfl, O, K⟩ := hrel
      by_cases hlt : k < q
      · obtain ⟨b, off, rfl, hb, q0, q1, q2⟩ := (H.out.below K (Nat.le_refl _)).cell (i := k) (by rw [HQ.out]; exact hlt)
        have hr := allOk_get HOK.out (k := k) (by rw [HQ.out]; exact hlt)
        have HT := Lib.hid (recsN_take (l := l) (k := k) (by rw [HQ.out]; exact hlt))
        have hlen : (putN q ++ recsN (l.take k)).length ≤ 1000 := by
          have h1 := putN_len3 (n := q) (by omega)
          have h2 := recsN_len (l := l.take k) (by
            have := HOK.out
            unfold allOk at this ⊢
            rw [List.all_eq_true] at this ⊢
            exact fun x hx => this x (List.mem_of_mem_take hx))
          rw [List.length_take] at h2
          rw [List.length_append]
          omega
        have HLEN := Lib.hid hlen
        generalize hrr : recAt l k = r at *
        obtain ⟨rk, ra, rb⟩ := r
        have hr := recOkB_true.1 hr
        dsimp only at hr q0 q1 q2
        obtain ⟨nk, rfl⟩ := Int.eq_ofNat_of_zero_le (show 0 ≤ rk by omega)
        obtain ⟨na, rfl⟩ := Int.eq_ofNat_of_zero_le (show 0 ≤ ra by omega)
        obtain ⟨nb, rfl⟩ := Int.eq_ofNat_of_zero_le (show 0 ≤ rb by omega)
        have HO := Lib.hid O
        have HK := Lib.hid K
        clear O K hlen hrr
        go_wp2_with fail
        have hsz := HK.out.size
        have hb1 : Below wr.heap.size wr ((wr.alloc (.cells #[.int .i64 nk, .int .i64 na, .int .i64 nb] 30)).alloc (.cells #[.int .i64 nk, .int .i64 na, .int .i64 nb] 2)) :=
          ((Below.refl _ _).alloc (Nat.le_refl _) _).alloc (by simp) _
        refine (withNumbers_any _ (putN q ++ recsN (l.take k)) [nk, na, nb] (wr.heap.size + 1) 3 w.heap.size _ (HO.out.below hb1) (by simp; omega) (by simp; omega) (by simp) (Nat.le_trans HLEN.out (by decide)) (by simp) ?_ (fun j hj => ?_)).mono ?_
        · intro e
          have := (HO.out.lt e).2
          omega
        · rcases (by simp at hj; omega : j = 0 ∨ j = 1 ∨ j = 2) with rfl | rfl | rfl <;> simp
        rintro e w3 ⟨v3, rfl, O3, K3⟩
        have HO3 := Lib.hid O3
        have HK3 := Lib.hid (((HK.out.alloc hsz (.cells #[.int .i64 nk, .int .i64 na, .int .i64 nb] 30)).alloc (by simp; omega) (.cells #[.int .i64 nk, .int .i64 na, .int .i64 nb] 2)).trans K3)
        clear O3 K3 hb1 HO HK
        go_wp2_with fail
        refine ⟨⟨k + 1, by omega, by go_num, ?_, HK3.out⟩, by simp [intOf]; omega⟩
        rw [HT.out]
        have := HO3.out
        simpa [recN] using this
      · obtain rfl : k = q := by omega
        go_wp2
        go_ret2
        refine ⟨_, ret_two rfl (bool_eq HW.out.symm), ?_, K⟩
        rw [wroteN_yes HW.out, HQ.out]
        rwa [List.take_of_length_le (by rw [HQ.out]; exact Nat.le_refl _)] at O
end Go.Proofs.YtcpmkbemkhacnaaDoor
