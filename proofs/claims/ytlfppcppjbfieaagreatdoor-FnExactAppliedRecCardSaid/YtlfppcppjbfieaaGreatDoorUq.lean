/-
  The model's l6With, at a list that rises.
-/
import Derived.Test.YtlfppcppjbfieaaGreatDoorUp
set_option linter.unusedVariables false
namespace Go.Proofs.YtlfppcppjbfieaaGreatDoor
open Go.RowKit

theorem withN_low {x : Int} {P : List Int} (Q : List Int) (h : ∀ y ∈ P, y < x) : withN x (P ++ Q) = P ++ withN x Q := by
  induction P with
  | nil => rfl
  | cons y P ih =>
    have hy := h y (by simp)
    have e : withN x (y :: (P ++ Q)) = (if x < y then x :: y :: (P ++ Q) else if x = y then y :: (P ++ Q) else y :: withN x (P ++ Q)) := rfl
    show withN x (y :: (P ++ Q)) = _
    rw [e, if_neg (by omega), if_neg (by omega), ih fun z hz => h z (by simp [hz])]
    rfl
theorem withN_hi {x : Int} {P : List Int} (Q : List Int) (h : ∃ y ∈ P, x ≤ y) : withN x (P ++ Q) = withN x P ++ Q := by
  induction P with
  | nil => simp at h
  | cons y P ih =>
    show withN x (y :: (P ++ Q)) = _
    unfold withN
    by_cases h1 : x < y
    · rw [if_pos h1, if_pos h1]; rfl
    · rw [if_neg h1, if_neg h1]
      by_cases h2 : x = y
      · rw [if_pos h2, if_pos h2]; rfl
      · rw [if_neg h2, if_neg h2]
        obtain ⟨z, hz, hx⟩ := h
        rw [ih ⟨z, by
          rcases List.mem_cons.1 hz with rfl | hz
          · omega
          · exact hz, hx⟩]
        rfl
theorem withN_len (x : Int) (l : List Int) : (withN x l).length ≤ l.length + 1 := by
  induction l with
  | nil => simp [withN]
  | cons y l ih =>
    unfold withN
    split
    · simp
    · split
      · simp
      · simpa using ih
/-- What stands in the list that is being made, behind k elements. -/
def putAt (l : List Int) (x : Int) (k : Nat) (put : Bool) (m : List Int) : Prop :=
  if put then (∃ y ∈ l.take k, x ≤ y) ∧ m = withN x (l.take k) else (∀ y ∈ l.take k, y < x) ∧ m = l.take k
theorem putAt.len {l : List Int} {x : Int} {k : Nat} {put : Bool} {m : List Int} (h : putAt l x k put m) : m.length ≤ l.length + 1 := by
  unfold putAt at h
  split at h
  · rw [h.2]
    refine Nat.le_trans (withN_len _ _) ?_
    rw [List.length_take]
    omega
  · rw [h.2, List.length_take]
    omega
theorem putAt.low {l : List Int} {x y : Int} {k : Nat} {m : List Int} (h : putAt l x k false m) (ht : l.take (k + 1) = l.take k ++ [y]) (hy : y < x) : putAt l x (k + 1) false (m ++ [y]) := by
  obtain ⟨h1, h2⟩ := h
  refine ⟨fun z hz => ?_, by rw [h2, ht]⟩
  rw [ht, List.mem_append] at hz
  rcases hz with hz | hz
  · exact h1 z hz
  · simp at hz; omega
theorem putAt.here {l : List Int} {x y : Int} {k : Nat} {m : List Int} (h : putAt l x k false m) (ht : l.take (k + 1) = l.take k ++ [y]) (hy : x < y) : putAt l x (k + 1) true (m ++ [x] ++ [y]) := by
  obtain ⟨h1, h2⟩ := h
  refine ⟨⟨y, by rw [ht]; simp, by omega⟩, ?_⟩
  rw [ht, withN_low _ h1, h2]
  simp [withN, hy]
theorem putAt.same {l : List Int} {x : Int} {k : Nat} {m : List Int} (h : putAt l x k false m) (ht : l.take (k + 1) = l.take k ++ [x]) : putAt l x (k + 1) true (m ++ [x]) := by
  obtain ⟨h1, h2⟩ := h
  refine ⟨⟨x, by rw [ht]; simp, by omega⟩, ?_⟩
  rw [ht, withN_low _ h1, h2]
  simp [withN]
theorem putAt.more {l : List Int} {x y : Int} {k : Nat} {m : List Int} (h : putAt l x k true m) (ht : l.take (k + 1) = l.take k ++ [y]) : putAt l x (k + 1) true (m ++ [y]) := by
  obtain ⟨⟨z, hz, hx⟩, h2⟩ := h
  refine ⟨⟨z, by rw [ht]; simp [hz], hx⟩, ?_⟩
  rw [ht, withN_hi _ ⟨z, hz, hx⟩, h2]
theorem putAt.above {l : List Int} {x y : Int} {k : Nat} {m : List Int} (h : putAt l x k true m) (ht : l.take (k + 1) = l.take k ++ [y]) (hr : l.Pairwise (· < ·)) : x < y := by
  obtain ⟨⟨z, hz, hx⟩, -⟩ := h
  have h1 : (l.take (k + 1)).Pairwise (· < ·) := hr.sublist (List.take_sublist _ _)
  rw [ht, List.pairwise_append] at h1
  have := h1.2.2 z hz y (by simp)
  omega

set_option maxRecDepth 4000 in
set_option maxHeartbeats 4000000 in
theorem l6With_any (A : Option Addr) (n c : Nat) (l : List Int) (x : Int) (w : World) (h : SlV w w.heap.size 1 A n (lkCs l)) (hl : l.length = n) (hn : n ≤ 1048576) (hr : l.Pairwise (· < ·)) :
    Calls Tryz.prog 72 #[.slice A n c, .int .i64 x] w fun e w' => ∃ v, e = .returned v ∧ LkR w' w.heap.size v (withN x l) ∧ Below w.heap.size w w' := by
  have H := Lib.hid h
  have HL := Lib.hid hl
  have HR := Lib.hid hr
  clear h hl hr
  obtain ⟨i1, hi, hz0, hz1, hz2⟩ := info_parts infoS_i64
  have GI := Lib.hid hi
  have GZ0 := Lib.hid hz0
  have GZ1 := Lib.hid hz1
  have GZ2 := Lib.hid hz2
  clear hi hz0 hz1 hz2
  have hn' : n ≤ 2 ^ 63 - 1 := by omega
  have HOA := Lib.hid (LkR.empty w w.heap.size (Nat.le_refl _))
  have HKA := Lib.hid ((Below.refl w.heap.size w).alloc (Nat.le_refl _) (.cells #[] 2))
  go_enter Tryz.func72, Tryz.ntmps72
  go_wp2_with fail
  go_loopw [5, 6, 7] (fun s5 s6 i wr => ∃ (k : Nat) (put : Bool) (m : List Int), k ≤ n ∧ s6 = .bool put ∧ i = .int .i64 k ∧ putAt l x k put m ∧ LkR wr w.heap.size s5 m ∧ Below w.heap.size w wr) (fun _ _ i _ => n - (intOf i).toNat)
  case atStart => exact ⟨0, false, [], Nat.zero_le _, rfl, rfl, ⟨by simp, rfl⟩, HOA.out, HKA.out⟩
  case round =>
    clear HOA HKA
    obtain ⟨k, put, m, hk, rfl, rfl, hm, O, K⟩ := hrel
    have HM := Lib.hid hm
    have HO := Lib.hid O
    have HK := Lib.hid K
    have hml := hm.len
    rw [HL.out] at hml
    have h63 : Hid (m.length + 1 ≤ maxLen) := Lib.hid (by unfold maxLen; omega)
    have hby : Hid ((m.length + 1) * 8 ≤ 140737488355328) := Lib.hid (by omega)
    have h64 : Hid ((m ++ [x]).length + 1 ≤ maxLen) := Lib.hid (by rw [List.length_append, List.length_singleton]; unfold maxLen; omega)
    have hbz : Hid (((m ++ [x]).length + 1) * 8 ≤ 140737488355328) := Lib.hid (by rw [List.length_append, List.length_singleton]; omega)
    clear hm O K hml
    have hs2 := HK.out.size
    by_cases hlt : k < n
    · obtain ⟨b, off, rfl, hb, q0⟩ := lk_at H.out HL.out hlt
      have HQ : Hid (∀ W : World, Below w.heap.size w W → W.cell? ⟨b, off + k, none⟩ = some (.int .i64 (lkA l k))) := Lib.hid fun W K => (K.cell (p := ⟨b, off + k, none⟩) hb).trans q0
      have q := HQ.out _ HK.out
      clear q0
      have hts := take_snoc l (k := k) (by rw [HL.out]; exact hlt)
      have HT := Lib.hid hts
      clear hts
      generalize lkA l k = y at *
      cases put
      · by_cases hxy : x ≤ y
        · by_cases hyx : y = x
          · subst hyx
            go_wp2_with ((at_builtin; refine wpList_append_own _ rfl _ _ 23 rfl _ 2 i1 (.int .i64 0) 1 8 Tryz.underlying23 GI.out GZ0.out GZ1.out GZ2.out rfl (by decide) _ _ _ rfl (ownsRow_below HO.out ((Below.refl _ _).alloc (Nat.le_refl _) _)) ⟨wr.heap.size, 0, none⟩ 1 1 [.int .i64 y] rfl rfl (cell_one_new _ _ _) (fun x hx => by simp at hx; subst hx; rfl) h63.out hby.out (by simp; omega) ?_; intro v' w4 hown' hgrow hnil; have q2 := HQ.out _ ((HK.out.alloc hs2 _).grown hgrow (by simp; omega) fun r hr => (HO.out.lt hr).1); have HG := Lib.hid hgrow; have HO4 := Lib.hid hown'; clear hgrow hnil hown'))
            exact ⟨⟨k + 1, true, m ++ [y], by omega, rfl, by go_num, HM.out.same HT.out, LkR.push _ HO4.out, (HK.out.alloc hs2 _).grown HG.out (by simp; omega) fun r hr => (HO.out.lt hr).1⟩, by simp [intOf]; omega⟩
          · go_wp2_with (first | (at_builtin; have hq := HO1; clear hq; refine wpList_append_own _ rfl _ _ 23 rfl _ 2 i1 (.int .i64 0) 1 8 Tryz.underlying23 GI.out GZ0.out GZ1.out GZ2.out rfl (by decide) _ _ _ rfl (ownsRow_below HO1.out ((Below.refl _ _).alloc (Nat.le_refl _) _)) ⟨w3.heap.size, 0, none⟩ 1 1 [.int .i64 y] rfl rfl (cell_one_new _ _ _) (fun x hx => by simp at hx; subst hx; rfl) h64.out hbz.out (by simp; omega) ?_; intro v' w4 hown' hgrow hnil; skip) | (at_builtin; refine wpList_append_own _ rfl _ _ 23 rfl _ 2 i1 (.int .i64 0) 1 8 Tryz.underlying23 GI.out GZ0.out GZ1.out GZ2.out rfl (by decide) _ _ _ rfl (ownsRow_below HO.out ((Below.refl _ _).alloc (Nat.le_refl _) _)) ⟨wr.heap.size, 0, none⟩ 1 1 [.int .i64 x] rfl rfl (cell_one_new _ _ _) (fun x hx => by simp at hx; subst hx; rfl) h63.out hby.out (by simp; omega) ?_; intro v1 w3 hown' hgrow hnil; have HO1 := Lib.hid (LkR.push _ hown'); have HK1 := Lib.hid ((HK.out.alloc hs2 _).grown hgrow (by simp; omega) fun r hr => (HO.out.lt hr).1); clear hown' hgrow hnil; have hs3 := HK1.out.size; have q2 := HQ.out _ HK1.out))
            exact ⟨⟨k + 1, true, m ++ [x] ++ [y], by omega, rfl, by go_num, HM.out.here HT.out (by omega), LkR.push _ hown', (HK1.out.alloc hs3 _).grown hgrow (by simp; omega) fun r hr => (HO1.out.lt hr).1⟩, by simp [intOf]; omega⟩
        · go_wp2_with ((at_builtin; refine wpList_append_own _ rfl _ _ 23 rfl _ 2 i1 (.int .i64 0) 1 8 Tryz.underlying23 GI.out GZ0.out GZ1.out GZ2.out rfl (by decide) _ _ _ rfl (ownsRow_below HO.out ((Below.refl _ _).alloc (Nat.le_refl _) _)) ⟨wr.heap.size, 0, none⟩ 1 1 [.int .i64 y] rfl rfl (cell_one_new _ _ _) (fun x hx => by simp at hx; subst hx; rfl) h63.out hby.out (by simp; omega) ?_; intro v' w4 hown' hgrow hnil; skip))
          exact ⟨⟨k + 1, false, m ++ [y], by omega, rfl, by go_num, HM.out.low HT.out (by omega), LkR.push _ hown', (HK.out.alloc hs2 _).grown hgrow (by simp; omega) fun r hr => (HO.out.lt hr).1⟩, by simp [intOf]; omega⟩
      · have hab := HM.out.above HT.out HR.out
        go_wp2_with ((at_builtin; refine wpList_append_own _ rfl _ _ 23 rfl _ 2 i1 (.int .i64 0) 1 8 Tryz.underlying23 GI.out GZ0.out GZ1.out GZ2.out rfl (by decide) _ _ _ rfl (ownsRow_below HO.out ((Below.refl _ _).alloc (Nat.le_refl _) _)) ⟨wr.heap.size, 0, none⟩ 1 1 [.int .i64 y] rfl rfl (cell_one_new _ _ _) (fun x hx => by simp at hx; subst hx; rfl) h63.out hby.out (by simp; omega) ?_; intro v' w4 hown' hgrow hnil; skip))
        exact ⟨⟨k + 1, true, m ++ [y], by omega, rfl, by go_num, HM.out.more HT.out, LkR.push _ hown', (HK.out.alloc hs2 _).grown hgrow (by simp; omega) fun r hr => (HO.out.lt hr).1⟩, by simp [intOf]; omega⟩
    · obtain rfl : k = n := by omega
      have htk : l.take l.length = l := List.take_length
      cases put
      · go_wp2_with ((at_builtin; refine wpList_append_own _ rfl _ _ 23 rfl _ 2 i1 (.int .i64 0) 1 8 Tryz.underlying23 GI.out GZ0.out GZ1.out GZ2.out rfl (by decide) _ _ _ rfl (ownsRow_below HO.out ((Below.refl _ _).alloc (Nat.le_refl _) _)) ⟨wr.heap.size, 0, none⟩ 1 1 [.int .i64 x] rfl rfl (cell_one_new _ _ _) (fun x hx => by simp at hx; subst hx; rfl) h63.out hby.out (by simp; omega) ?_; intro v' w4 hown' hgrow hnil; skip))
        go_ret
        exact ⟨_, rfl, by
          have h := HM.out
          rw [← HL.out] at h
          have h1 := h.1
          have h2 := h.2
          rw [htk] at h1 h2
          have := withN_low (x := x) [] h1
          rw [List.append_nil] at this
          rw [this, ← h2]
          exact LkR.push _ hown', (HK.out.alloc hs2 _).grown hgrow (by simp; omega) fun r hr => (HO.out.lt hr).1⟩
      · go_wp2
        go_ret
        exact ⟨_, rfl, by
          have h := HM.out
          rw [← HL.out] at h
          have h2 := h.2
          rw [htk] at h2
          rw [← h2]
          exact HO.out, HK.out⟩
end Go.Proofs.YtlfppcppjbfieaaGreatDoor
