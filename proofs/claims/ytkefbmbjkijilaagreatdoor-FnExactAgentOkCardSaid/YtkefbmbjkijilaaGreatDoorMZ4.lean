/-
  The model's l6There, l6Apply.
-/
import Derived.Test.YtkefbmbjkijilaaGreatDoorMZ3
import Derived.Test.YtkefbmbjkijilaaGreatDoorMZ1
import Derived.StillTailTactics
/- Uq -/
set_option linter.unusedVariables false
namespace Go.Proofs.YtkefbmbjkijilaaGreatDoor
open Go.RowKit

theorem withN_low {x : Int} {P : List Int} (Q : List Int) (h : ∀ y ∈ P, y < x) : withN x (P ++ Q) = P ++ withN x Q := by
  induction P with
  | nil => rfl
  | cons y P ih =>
    have hy := h y (by simp)
    have e : withN x (y :: (P ++ Q)) = (if x < y then x :: y :: (P ++ Q) else if x = y then y :: (P ++ Q) else y :: withN x (P ++ Q)) := rfl
    show withN x (y :: (P ++ Q)) = _
    rw [e, if_neg (by omega), if_neg (by omega), ih fun z hz => h z (by simp [hz])]
    rfl
theorem withN_hi {x : Int} {P : List Int} (Q : List Int) (h : ∃ y ∈ P, x ≤ y) : withN x (P ++ Q) = withN x P ++ Q := by
  induction P with
  | nil => simp at h
  | cons y P ih =>
    show withN x (y :: (P ++ Q)) = _
    unfold withN
    by_cases h1 : x < y
    · rw [if_pos h1, if_pos h1]; rfl
    · rw [if_neg h1, if_neg h1]
      by_cases h2 : x = y
      · rw [if_pos h2, if_pos h2]; rfl
      · rw [if_neg h2, if_neg h2]
        obtain ⟨z, hz, hx⟩ := h
        rw [ih ⟨z, by
          rcases List.mem_cons.1 hz with rfl | hz
          · omega
          · exact hz, hx⟩]
        rfl
theorem withN_len (x : Int) (l : List Int) : (withN x l).length ≤ l.length + 1 := by
  induction l with
  | nil => simp [withN]
  | cons y l ih =>
    unfold withN
    split
    · simp
    · split
      · simp
      · simpa using ih
/-- What stands in the list that is being made, behind k elements. -/
def putAt (l : List Int) (x : Int) (k : Nat) (put : Bool) (m : List Int) : Prop :=
  if put then (∃ y ∈ l.take k, x ≤ y) ∧ m = withN x (l.take k) else (∀ y ∈ l.take k, y < x) ∧ m = l.take k
theorem putAt.len {l : List Int} {x : Int} {k : Nat} {put : Bool} {m : List Int} (h : putAt l x k put m) : m.length ≤ l.length + 1 := by
  unfold putAt at h
  split at h
  · rw [h.2]
    refine Nat.le_trans (withN_len _ _) ?_
    rw [List.length_take]
    omega
  · rw [h.2, List.length_take]
    omega
theorem putAt.low {l : List Int} {x y : Int} {k : Nat} {m : List Int} (h : putAt l x k false m) (ht : l.take (k + 1) = l.take k ++ [y]) (hy : y < x) : putAt l x (k + 1) false (m ++ [y]) := by
  obtain ⟨h1, h2⟩ := h
  refine ⟨fun z hz => ?_, by rw [h2, ht]⟩
  rw [ht, List.mem_append] at hz
  rcases hz with hz | hz
  · exact h1 z hz
  · simp at hz; omega
theorem putAt.here {l : List Int} {x y : Int} {k : Nat} {m : List Int} (h : putAt l x k false m) (ht : l.take (k + 1) = l.take k ++ [y]) (hy : x < y) : putAt l x (k + 1) true (m ++ [x] ++ [y]) := by
  obtain ⟨h1, h2⟩ := h
  refine ⟨⟨y, by rw [ht]; simp, by omega⟩, ?_⟩
  rw [ht, withN_low _ h1, h2]
  simp [withN, hy]
theorem putAt.same {l : List Int} {x : Int} {k : Nat} {m : List Int} (h : putAt l x k false m) (ht : l.take (k + 1) = l.take k ++ [x]) : putAt l x (k + 1) true (m ++ [x]) := by
  obtain ⟨h1, h2⟩ := h
  refine ⟨⟨x, by rw [ht]; simp, by omega⟩, ?_⟩
  rw [ht, withN_low _ h1, h2]
  simp [withN]
theorem putAt.more {l : List Int} {x y : Int} {k : Nat} {m : List Int} (h : putAt l x k true m) (ht : l.take (k + 1) = l.take k ++ [y]) : putAt l x (k + 1) true (m ++ [y]) := by
  obtain ⟨⟨z, hz, hx⟩, h2⟩ := h
  refine ⟨⟨z, by rw [ht]; simp [hz], hx⟩, ?_⟩
  rw [ht, withN_hi _ ⟨z, hz, hx⟩, h2]
theorem putAt.above {l : List Int} {x y : Int} {k : Nat} {m : List Int} (h : putAt l x k true m) (ht : l.take (k + 1) = l.take k ++ [y]) (hr : l.Pairwise (· < ·)) : x < y := by
  obtain ⟨⟨z, hz, hx⟩, -⟩ := h
  have h1 : (l.take (k + 1)).Pairwise (· < ·) := hr.sublist (List.take_sublist _ _)
  rw [ht, List.pairwise_append] at h1
  have := h1.2.2 z hz y (by simp)
  omega

set_option maxRecDepth 4000 in
set_option maxHeartbeats 4000000 in
theorem l6With_any (A : Option Addr) (n c : Nat) (l : List Int) (x : Int) (w : World) (h : SlV w w.heap.size 1 A n (lkCs l)) (hl : l.length = n) (hn : n ≤ 1048576) (hr : l.Pairwise (· < ·)) :
    Calls Tryz.prog 143 #[.slice A n c, .int .i64 x] w fun e w' => ∃ v, e = .returned v ∧ LkR w' w.heap.size v (withN x l) ∧ Below w.heap.size w w' := by
  have H := Lib.hid h
  have HL := Lib.hid hl
  have HR := Lib.hid hr
  clear h hl hr
  obtain ⟨i1, hi, hz0, hz1, hz2⟩ := info_parts infoS_i64
  have GI := Lib.hid hi
  have GZ0 := Lib.hid hz0
  have GZ1 := Lib.hid hz1
  have GZ2 := Lib.hid hz2
  clear hi hz0 hz1 hz2
  have hn' : n ≤ 2 ^ 63 - 1 := by omega
  have HOA := Lib.hid (LkR.empty w w.heap.size (Nat.le_refl _))
  have HKA := Lib.hid ((Below.refl w.heap.size w).alloc (Nat.le_refl _) (.cells #[] 2))
  go_enter Tryz.func143, Tryz.ntmps143
  go_wp2_with fail
  go_loopw [5, 6, 7] (fun s5 s6 i wr => ∃ (k : Nat) (put : Bool) (m : List Int), k ≤ n ∧ s6 = .bool put ∧ i = .int .i64 k ∧ putAt l x k put m ∧ LkR wr w.heap.size s5 m ∧ Below w.heap.size w wr) (fun _ _ i _ => n - (intOf i).toNat)
  case atStart => exact ⟨0, false, [], Nat.zero_le _, rfl, rfl, ⟨by simp, rfl⟩, HOA.out, HKA.out⟩
  case round =>
    clear HOA HKA
    obtain ⟨k, put, m, hk, rfl, rfl, hm, O, K⟩ := hrel
    have HM := Lib.hid hm
    have HO := Lib.hid O
    have HK := Lib.hid K
    have hml := hm.len
    rw [HL.out] at hml
    have h63 : Hid (m.length + 1 ≤ maxLen) := Lib.hid (by unfold maxLen; omega)
    have hby : Hid ((m.length + 1) * 8 ≤ 140737488355328) := Lib.hid (by omega)
    have h64 : Hid ((m ++ [x]).length + 1 ≤ maxLen) := Lib.hid (by rw [List.length_append, List.length_singleton]; unfold maxLen; omega)
    have hbz : Hid (((m ++ [x]).length + 1) * 8 ≤ 140737488355328) := Lib.hid (by rw [List.length_append, List.length_singleton]; omega)
    clear hm O K hml
    have hs2 := HK.out.size
    by_cases hlt : k < n
    · obtain ⟨b, off, rfl, hb, q0⟩ := lk_at H.out HL.out hlt
      have HQ : Hid (∀ W : World, Below w.heap.size w W → W.cell? ⟨b, off + k, none⟩ = some (.int .i64 (lkA l k))) := Lib.hid fun W K => (K.cell (p := ⟨b, off + k, none⟩) hb).trans q0
      have q := HQ.out _ HK.out
      clear q0
      have hts := take_snoc l (k := k) (by rw [HL.out]; exact hlt)
      have HT := Lib.hid hts
      clear hts
      generalize lkA l k = y at *
      cases put
      · by_cases hxy : x ≤ y
        · by_cases hyx : y = x
          · subst hyx
            go_wp2_with ((at_builtin; refine wpList_append_own _ rfl _ _ 23 rfl _ 2 i1 (.int .i64 0) 1 8 Tryz.underlying23 GI.out GZ0.out GZ1.out GZ2.out rfl (by decide) _ _ _ rfl (ownsRow_below HO.out ((Below.refl _ _).alloc (Nat.le_refl _) _)) ⟨wr.heap.size, 0, none⟩ 1 1 [.int .i64 y] rfl rfl (cell_one_new _ _ _) (fun x hx => by simp at hx; subst hx; rfl) h63.out hby.out (by simp; omega) ?_; intro v' w4 hown' hgrow hnil; have q2 := HQ.out _ ((HK.out.alloc hs2 _).grown hgrow (by simp; omega) fun r hr => (HO.out.lt hr).1); have HG := Lib.hid hgrow; have HO4 := Lib.hid hown'; clear hgrow hnil hown'))
            exact ⟨⟨k + 1, true, m ++ [y], by omega, rfl, by go_num, HM.out.same HT.out, LkR.push _ HO4.out, (HK.out.alloc hs2 _).grown HG.out (by simp; omega) fun r hr => (HO.out.lt hr).1⟩, by simp [intOf]; omega⟩
          · go_wp2_with (first | (at_builtin; have hq := HO1; clear hq; refine wpList_append_own _ rfl _ _ 23 rfl _ 2 i1 (.int .i64 0) 1 8 Tryz.underlying23 GI.out GZ0.out GZ1.out GZ2.out rfl (by decide) _ _ _ rfl (ownsRow_below HO1.out ((Below.refl _ _).alloc (Nat.le_refl _) _)) ⟨w3.heap.size, 0, none⟩ 1 1 [.int .i64 y] rfl rfl (cell_one_new _ _ _) (fun x hx => by simp at hx; subst hx; rfl) h64.out hbz.out (by simp; omega) ?_; intro v' w4 hown' hgrow hnil; skip) | (at_builtin; refine wpList_append_own _ rfl _ _ 23 rfl _ 2 i1 (.int .i64 0) 1 8 Tryz.underlying23 GI.out GZ0.out GZ1.out GZ2.out rfl (by decide) _ _ _ rfl (ownsRow_below HO.out ((Below.refl _ _).alloc (Nat.le_refl _) _)) ⟨wr.heap.size, 0, none⟩ 1 1 [.int .i64 x] rfl rfl (cell_one_new _ _ _) (fun x hx => by simp at hx; subst hx; rfl) h63.out hby.out (by simp; omega) ?_; intro v1 w3 hown' hgrow hnil; have HO1 := Lib.hid (LkR.push _ hown'); have HK1 := Lib.hid ((HK.out.alloc hs2 _).grown hgrow (by simp; omega) fun r hr => (HO.out.lt hr).1); clear hown' hgrow hnil; have hs3 := HK1.out.size; have q2 := HQ.out _ HK1.out))
            exact ⟨⟨k + 1, true, m ++ [x] ++ [y], by omega, rfl, by go_num, HM.out.here HT.out (by omega), LkR.push _ hown', (HK1.out.alloc hs3 _).grown hgrow (by simp; omega) fun r hr => (HO1.out.lt hr).1⟩, by simp [intOf]; omega⟩
        · go_wp2_with ((at_builtin; refine wpList_append_own _ rfl _ _ 23 rfl _ 2 i1 (.int .i64 0) 1 8 Tryz.underlying23 GI.out GZ0.out GZ1.out GZ2.out rfl (by decide) _ _ _ rfl (ownsRow_below HO.out ((Below.refl _ _).alloc (Nat.le_refl _) _)) ⟨wr.heap.size, 0, none⟩ 1 1 [.int .i64 y] rfl rfl (cell_one_new _ _ _) (fun x hx => by simp at hx; subst hx; rfl) h63.out hby.out (by simp; omega) ?_; intro v' w4 hown' hgrow hnil; skip))
          exact ⟨⟨k + 1, false, m ++ [y], by omega, rfl, by go_num, HM.out.low HT.out (by omega), LkR.push _ hown', (HK.out.alloc hs2 _).grown hgrow (by simp; omega) fun r hr => (HO.out.lt hr).1⟩, by simp [intOf]; omega⟩
      · have hab := HM.out.above HT.out HR.out
        go_wp2_with ((at_builtin; refine wpList_append_own _ rfl _ _ 23 rfl _ 2 i1 (.int .i64 0) 1 8 Tryz.underlying23 GI.out GZ0.out GZ1.out GZ2.out rfl (by decide) _ _ _ rfl (ownsRow_below HO.out ((Below.refl _ _).alloc (Nat.le_refl _) _)) ⟨wr.heap.size, 0, none⟩ 1 1 [.int .i64 y] rfl rfl (cell_one_new _ _ _) (fun x hx => by simp at hx; subst hx; rfl) h63.out hby.out (by simp; omega) ?_; intro v' w4 hown' hgrow hnil; skip))
        exact ⟨⟨k + 1, true, m ++ [y], by omega, rfl, by go_num, HM.out.more HT.out, LkR.push _ hown', (HK.out.alloc hs2 _).grown hgrow (by simp; omega) fun r hr => (HO.out.lt hr).1⟩, by simp [intOf]; omega⟩
    · obtain rfl : k = n := by omega
      have htk : l.take l.length = l := List.take_length
      cases put
      · go_wp2_with ((at_builtin; refine wpList_append_own _ rfl _ _ 23 rfl _ 2 i1 (.int .i64 0) 1 8 Tryz.underlying23 GI.out GZ0.out GZ1.out GZ2.out rfl (by decide) _ _ _ rfl (ownsRow_below HO.out ((Below.refl _ _).alloc (Nat.le_refl _) _)) ⟨wr.heap.size, 0, none⟩ 1 1 [.int .i64 x] rfl rfl (cell_one_new _ _ _) (fun x hx => by simp at hx; subst hx; rfl) h63.out hby.out (by simp; omega) ?_; intro v' w4 hown' hgrow hnil; skip))
        go_ret
        exact ⟨_, rfl, by
          have h := HM.out
          rw [← HL.out] at h
          have h1 := h.1
          have h2 := h.2
          rw [htk] at h1 h2
          have := withN_low (x := x) [] h1
          rw [List.append_nil] at this
          rw [this, ← h2]
          exact LkR.push _ hown', (HK.out.alloc hs2 _).grown hgrow (by simp; omega) fun r hr => (HO.out.lt hr).1⟩
      · go_wp2
        go_ret
        exact ⟨_, rfl, by
          have h := HM.out
          rw [← HL.out] at h
          have h2 := h.2
          rw [htk] at h2
          rw [← h2]
          exact HO.out, HK.out⟩
end Go.Proofs.YtkefbmbjkijilaaGreatDoor
/- Uh -/
set_option linter.unusedVariables false
namespace Go.Proofs.YtkefbmbjkijilaaGreatDoor
open Go.RowKit

theorem field_any_ (x : Int) (w : World) :
    Calls Tryz.prog 142 #[.int .i64 x] w fun e w' => e = .returned (.bool (inB x 0 1000000)) ∧ w = w' := by
  go_enter Tryz.func142, Tryz.ntmps142
  go_wp2_with (go_at_call 63; refine (in_any _ _ _ _).mono ?_; rintro e w' ⟨rfl, rfl⟩)
  go_ret
  exact ⟨rfl, rfl⟩
def podOkB (q : Int × Int) : Bool := inB q.1 0 6 && inB q.2 0 1000000
def mntOkB (q : Bool × Int) : Bool := inB q.2 0 5 && (q.1 || q.2 == 0)
def lkOkB (l : List Int) (i : Nat) : Bool := inB (lkA l i) 0 7 && (decide (i = 0) || decide (lkA l (i - 1) < lkA l i))
def partsB (d : PlanD) (s : StD) : Bool :=
  decide (s.pods.length = d.n0) && decide (s.mnts.length = d.n2) && decide (s.devs.length = d.n3) &&
  allB s.pods.length (fun i => podOkB (podA s.pods i)) && allB s.mnts.length (fun i => mntOkB (mntA s.mnts i)) && allB s.lks.length (lkOkB s.lks)
theorem all_getD {α : Type} (d : α) {l : List α} {f : α → Bool} : allB l.length (fun i => f (l.getD i d)) = l.all f := by
  rw [Bool.eq_iff_iff, allB_true, List.all_eq_true]
  constructor
  · intro h x hx
    obtain ⟨i, hi, rfl⟩ := List.mem_iff_getElem.1 hx
    have := h i hi
    simpa [List.getD, hi] using this
  · intro h i hi
    have : l.getD i d = l[i] := by simp [List.getD, hi]
    rw [this]
    exact h _ (List.getElem_mem hi)
theorem rise_iff {l : List Int} : (∀ i, i < l.length → i = 0 ∨ lkA l (i - 1) < lkA l i) ↔ l.Pairwise (· < ·) := by
  rw [List.pairwise_iff_getElem]
  constructor
  · intro h i j hi hj hij
    have : ∀ m, (hm : i + m + 1 < l.length) → l[i]'(by omega) < l[i + m + 1] := fun m => by
      induction m with
      | zero =>
        intro hm
        have := (h (i + 1) (by omega)).resolve_left (by omega)
        rw [Nat.add_sub_cancel] at this
        simpa [lkA, List.getD, show i < l.length by omega, show i + 1 < l.length by omega] using this
      | succ m ih =>
        intro hm
        have h1 := ih (by omega)
        have := (h (i + m + 1 + 1) (by omega)).resolve_left (by omega)
        rw [Nat.add_sub_cancel] at this
        have h2 : l[i + m + 1]'(by omega) < l[i + m + 1 + 1]'(by omega) := by
          simpa [lkA, List.getD, show i + m + 1 < l.length by omega, show i + m + 1 + 1 < l.length by omega] using this
        exact Int.lt_trans h1 h2
    have hm := this (j - i - 1) (by omega)
    have e : i + (j - i - 1) + 1 = j := by omega
    simpa [e] using hm
  · intro h i hi
    by_cases h0 : i = 0
    · exact .inl h0
    · refine .inr ?_
      have := h (i - 1) i (by omega) hi (by omega)
      simpa [lkA, List.getD, hi, show i - 1 < l.length by omega] using this
theorem stOkB_parts (d : PlanD) (s : StD) : stOkB d s = (planOkB d && inB s.ph 0 8 && (s.co == decide (s.ph ≠ 0)) && inB s.ck 0 1000000 && inB s.bo 0 1000000 && inB s.ba 0 6 && inB s.lb 0 1000000 && inB s.gd 0 s.pr && decide (s.pr ≤ d.t) && partsB d s) := by
  have e1 : s.pods.all (fun q => inB q.1 0 6 && inB q.2 0 1000000) = allB s.pods.length (fun i => podOkB (podA s.pods i)) := (all_getD (0, 0) (f := podOkB)).symm
  have e2 : s.mnts.all (fun q => inB q.2 0 5 && (q.1 || q.2 == 0)) = allB s.mnts.length (fun i => mntOkB (mntA s.mnts i)) := (all_getD (false, 0) (f := mntOkB)).symm
  have e3 : (s.lks.all (fun x => inB x 0 7) && decide (s.lks.Pairwise (· < ·))) = allB s.lks.length (lkOkB s.lks) := by
    rw [Bool.eq_iff_iff, Bool.and_eq_true, decide_eq_true_eq, ← all_getD 0, allB_true, allB_true, ← rise_iff]
    simp only [lkOkB, lkA, Bool.and_eq_true, Bool.or_eq_true, decide_eq_true_eq]
    constructor
    · exact fun h i hi => ⟨h.1 i hi, (h.2 i hi).imp id (fun hh => decide_eq_true hh)⟩
    · exact fun h => ⟨fun i hi => (h i hi).1, fun i hi => ((h i hi).2).imp id (fun hh => of_decide_eq_true hh)⟩
  unfold stOkB partsB
  rw [e1, e2, ← e3]
  simp only [Bool.and_assoc]

set_option maxHeartbeats 4000000 in
theorem l5Parts_any (pv sv : Value) (d : PlanD) (s : StD) (w : World) (hp : IsPlan w w.heap.size pv d) (h : IsSt w w.heap.size sv s) :
    Calls Tryz.prog 145 #[pv, sv] w fun e w' => e = .returned (.bool (partsB d s)) ∧ Below w.heap.size w w' := by
  obtain ⟨⟨P0, P1, P2, P3, k0, k1, k2, k3, rfl, -, -, -, -⟩, hb0, hb1, hb2, hb3⟩ := hp
  obtain ⟨⟨A0, A1, A2, A3, c0, c1, c2, c3, rfl, s0, s1, s2, s3⟩, b0, b1, b2, b3⟩ := h
  obtain ⟨n0, n1, n2, n3, x0, x1, x2, x3, l, p, t⟩ := d
  obtain ⟨ph, co, ck, bo, ba, lb, l0, l1, l2, l3, gd, pr⟩ := s
  dsimp only at *
  unfold maxLen at hb0 hb1 hb2 hb3 b0 b1 b2 b3
  have S0 := Lib.hid s0
  have S1 := Lib.hid s1
  have S3 := Lib.hid s3
  clear s0 s1 s2 s3
  have hpt : partsB ⟨n0, n1, n2, n3, x0, x1, x2, x3, l, p, t⟩ ⟨ph, co, ck, bo, ba, lb, l0, l1, l2, l3, gd, pr⟩ = (decide (l0.length = n0) && decide (l1.length = n2) && decide (l2.length = n3) &&
    allB l0.length (fun i => podOkB (podA l0 i)) && allB l1.length (fun i => mntOkB (mntA l1 i)) && allB l3.length (lkOkB l3)) := rfl
  generalize partsB ⟨n0, n1, n2, n3, x0, x1, x2, x3, l, p, t⟩ ⟨ph, co, ck, bo, ba, lb, l0, l1, l2, l3, gd, pr⟩ = ans at *
  have HANS := Lib.hid hpt
  clear hpt
  generalize hq0 : l0.length = m0 at *
  generalize hq1 : l1.length = m1 at *
  generalize hq2 : l2.length = m2 at *
  generalize hq3 : l3.length = m3 at *
  have HQ0 := Lib.hid hq0
  have HQ1 := Lib.hid hq1
  have HQ3 := Lib.hid hq3
  clear hq0 hq1 hq2 hq3
  have T0 := Two.start w (planC P0 P1 P2 P3 n0 k0 n1 k1 n2 k2 n3 k3 l p t) (stC A0 A1 A2 A3 m0 c0 m1 c1 m2 c2 m3 c3 ph co ck bo ba lb gd pr) 42 46
  go_enter Tryz.func145, Tryz.ntmps145
  by_cases e0 : m0 = n0
  · by_cases e1 : m1 = n2
    · by_cases e2 : m2 = n3
      · subst e0 e1 e2
        go_wp2_with fail
        go_loopw [5] (fun i wr => ∃ k : Nat, k ≤ m0 ∧ i = .int .i64 k ∧ Hid (∀ j, j < k → podOkB (podA l0 j) = true) ∧ Two w wr (planC P0 P1 P2 P3 m0 k0 n1 k1 m1 k2 m2 k3 l p t) (stC A0 A1 A2 A3 m0 c0 m1 c1 m2 c2 m3 c3 ph co ck bo ba lb gd pr)) (fun i _ => m0 - (intOf i).toNat)
        case atStart => exact ⟨0, Nat.zero_le _, rfl, Lib.hid (fun j hj => absurd hj (by omega)), T0⟩
        case round =>
          clear T0
          obtain ⟨k, hk, rfl, HA, X⟩ := hrel
          have hC := X.A.C
          have hD := X.O.C
          by_cases hlt : k < m0
          · obtain ⟨b, off, rfl, hb, hc⟩ := ((S0.out.below X.A.K (Nat.le_refl _)).more X.A.K.size).cell hlt
            have hp := podCs_at l0 (i := k) (by rw [HQ0.out]; exact hlt)
            have q0 := (hc 0 (by decide)).trans hp.1
            have q1 := (hc 1 (by decide)).trans hp.2
            rw [Nat.add_zero] at q0
            have HOK : Hid (podOkB (podA l0 k) = (inB (podA l0 k).1 0 6 && inB (podA l0 k).2 0 1000000)) := Lib.hid rfl
            clear hc hp
            generalize hr : podA l0 k = r at *
            have HRR := Lib.hid hr
            clear hr
            obtain ⟨x, y⟩ := r
            dsimp only at q0 q1 HOK
            cases h1 : inB x 0 6
            · have H1 := Lib.hid h1
              clear h1
              go_wp2_with (go_at_call 63; refine (in_any _ _ _ _).mono ?_; rintro e w' ⟨rfl, rfl⟩; rw [H1.out])
              go_ret
              exact ⟨ret_bool (by rw [HANS.out, allB_false hlt (by rw [HRR.out, HOK.out, H1.out]; rfl)]; simp), X.A.K⟩
            · have H1 := Lib.hid h1
              clear h1
              cases h2 : inB y 0 1000000
              · have H2 := Lib.hid h2
                clear h2
                go_wp2_with (first
                  | (go_at_call 63; refine (in_any _ _ _ _).mono ?_; rintro e w' ⟨rfl, rfl⟩; rw [H1.out])
                  | (go_at_call 142; refine (field_any_ _ _).mono ?_; rintro e w' ⟨rfl, rfl⟩; rw [H2.out]))
                go_ret
                exact ⟨ret_bool (by rw [HANS.out, allB_false hlt (by rw [HRR.out, HOK.out, H1.out, H2.out]; rfl)]; simp), X.A.K⟩
              · have H2 := Lib.hid h2
                clear h2
                go_wp2_with (first
                  | (go_at_call 63; refine (in_any _ _ _ _).mono ?_; rintro e w' ⟨rfl, rfl⟩; rw [H1.out])
                  | (go_at_call 142; refine (field_any_ _ _).mono ?_; rintro e w' ⟨rfl, rfl⟩; rw [H2.out]))
                exact ⟨⟨k + 1, by omega, by go_num, Lib.hid (step_all HA.out (by rw [HRR.out, HOK.out, H1.out, H2.out]; rfl)), X⟩, by simp [intOf]; omega⟩
          · obtain rfl : k = m0 := by omega
            have HB0 := Lib.hid (allB_true.2 HA.out)
            clear HA hlt hk
            go_wp2_with fail
            go_loopw [6] (fun i wr => ∃ k' : Nat, k' ≤ m1 ∧ i = .int .i64 k' ∧ Hid (∀ j, j < k' → mntOkB (mntA l1 j) = true) ∧ Two w wr (planC P0 P1 P2 P3 k k0 n1 k1 m1 k2 m2 k3 l p t) (stC A0 A1 A2 A3 k c0 m1 c1 m2 c2 m3 c3 ph co ck bo ba lb gd pr)) (fun i _ => m1 - (intOf i).toNat)
            case atStart => exact ⟨0, Nat.zero_le _, rfl, Lib.hid (fun j hj => absurd hj (by omega)), X⟩
            case round =>
              clear X hC hD
              obtain ⟨k', hk', rfl, HA, X⟩ := hrel
              have hC := X.A.C
              have hD := X.O.C
              by_cases hlt : k' < m1
              · obtain ⟨b, off, rfl, hb, hc⟩ := ((S1.out.below X.A.K (Nat.le_refl _)).more X.A.K.size).cell hlt
                have hp := mntCs_at l1 (i := k') (by rw [HQ1.out]; exact hlt)
                have q0 := (hc 0 (by decide)).trans hp.1
                have q1 := (hc 1 (by decide)).trans hp.2
                rw [Nat.add_zero] at q0
                have HOK : Hid (mntOkB (mntA l1 k') = (inB (mntA l1 k').2 0 5 && ((mntA l1 k').1 || (mntA l1 k').2 == 0))) := Lib.hid rfl
                clear hc hp
                generalize hr : mntA l1 k' = r at *
                have HRR := Lib.hid hr
                clear hr
                obtain ⟨x, y⟩ := r
                dsimp only at q0 q1 HOK
                cases h1 : inB y 0 5
                · have H1 := Lib.hid h1
                  clear h1
                  go_wp2_with (go_at_call 63; refine (in_any _ _ _ _).mono ?_; rintro e w' ⟨rfl, rfl⟩; rw [H1.out])
                  go_ret
                  exact ⟨ret_bool (by rw [HANS.out, allB_false (f := fun i => mntOkB (mntA l1 i)) hlt (by rw [HRR.out, HOK.out, H1.out]; rfl)]; simp), X.A.K⟩
                · have H1 := Lib.hid h1
                  clear h1
                  cases x
                  · by_cases hy : y = 0
                    · subst hy
                      go_wp2_with (go_at_call 63; refine (in_any _ _ _ _).mono ?_; rintro e w' ⟨rfl, rfl⟩; rw [H1.out])
                      exact ⟨⟨k' + 1, by omega, by go_num, Lib.hid (step_all (f := fun i => mntOkB (mntA l1 i)) HA.out (by rw [HRR.out, HOK.out, H1.out]; rfl)), X⟩, by simp [intOf]; omega⟩
                    · have hy' : ¬ y = 0 := hy
                      go_wp2_with (go_at_call 63; refine (in_any _ _ _ _).mono ?_; rintro e w' ⟨rfl, rfl⟩; rw [H1.out])
                      go_ret
                      exact ⟨ret_bool (by rw [HANS.out, allB_false (f := fun i => mntOkB (mntA l1 i)) hlt (by rw [HRR.out, HOK.out, H1.out]; simp [hy])]; simp), X.A.K⟩
                  · go_wp2_with (go_at_call 63; refine (in_any _ _ _ _).mono ?_; rintro e w' ⟨rfl, rfl⟩; rw [H1.out])
                    exact ⟨⟨k' + 1, by omega, by go_num, Lib.hid (step_all (f := fun i => mntOkB (mntA l1 i)) HA.out (by rw [HRR.out, HOK.out, H1.out]; rfl)), X⟩, by simp [intOf]; omega⟩
              · obtain rfl : k' = m1 := by omega
                have HB1 := Lib.hid (allB_true.2 HA.out)
                clear HA hlt hk'
                go_wp2_with fail
                go_loopw [7] (fun i wr => ∃ i' : Nat, i' ≤ m3 ∧ i = .int .i64 i' ∧ Hid (∀ j, j < i' → lkOkB l3 j = true) ∧ Two w wr (planC P0 P1 P2 P3 k k0 n1 k1 k' k2 m2 k3 l p t) (stC A0 A1 A2 A3 k c0 k' c1 m2 c2 m3 c3 ph co ck bo ba lb gd pr)) (fun i _ => m3 - (intOf i).toNat)
                case atStart => exact ⟨0, Nat.zero_le _, rfl, Lib.hid (fun j hj => absurd hj (by omega)), X⟩
                case round =>
                  clear X hC hD
                  obtain ⟨i', hi', rfl, HA, X⟩ := hrel
                  have hC := X.A.C
                  have hD := X.O.C
                  by_cases hlt : i' < m3
                  · obtain ⟨b, off, rfl, hb, hc⟩ := ((S3.out.below X.A.K (Nat.le_refl _)).more X.A.K.size).cell hlt
                    have q0 := hc 0 (by decide)
                    rw [Nat.add_zero, Nat.mul_one, Nat.add_zero, lkCs_at l3 (i := i') (by rw [HQ3.out]; exact hlt)] at q0
                    have q1 : wr.cell? ⟨b, off + (i' - 1), none⟩ = some (.int .i64 (lkA l3 (i' - 1))) := by
                      obtain ⟨b', off', e, -, hc'⟩ := ((S3.out.below X.A.K (Nat.le_refl _)).more X.A.K.size).cell (i := i' - 1) (by omega)
                      injection e with e
                      injection e with e1 e2 _
                      subst e1 e2
                      have := hc' 0 (by decide)
                      rwa [Nat.add_zero, Nat.mul_one, Nat.add_zero, lkCs_at l3 (i := i' - 1) (by rw [HQ3.out]; omega)] at this
                    have HOK : Hid (lkOkB l3 i' = (inB (lkA l3 i') 0 7 && (decide (i' = 0) || decide (lkA l3 (i' - 1) < lkA l3 i')))) := Lib.hid rfl
                    clear hc
                    generalize hx : lkA l3 i' = x at *
                    generalize hy : lkA l3 (i' - 1) = y at *
                    clear hx hy
                    cases h1 : inB x 0 7
                    · have H1 := Lib.hid h1
                      clear h1
                      go_wp2_with fail
                      go_quiet ((go_at_call 63; exact Calls.quiet_of_same ((in_any _ _ _ _).mono fun e w' h => ⟨h.1.trans (by rw [H1.out]), h.2.symm⟩)))
                      go_wp2
                      go_ret
                      exact ⟨ret_bool (by rw [HANS.out, allB_false (f := lkOkB l3) hlt (by rw [HOK.out, H1.out]; rfl)]; simp), below_drewN X.A.K _⟩
                    · have H1 := Lib.hid h1
                      clear h1
                      by_cases hi0 : i' = 0
                      · subst hi0
                        rw [Nat.add_zero] at q0
                        go_wp2_with fail
                        go_quiet ((go_at_call 63; exact Calls.quiet_of_same ((in_any _ _ _ _).mono fun e w' h => ⟨h.1.trans (by rw [H1.out]), h.2.symm⟩)))
                        go_wp2
                        exact ⟨⟨1, by omega, by go_num, Lib.hid (step_all (f := lkOkB l3) HA.out (by rw [HOK.out, H1.out]; rfl)), ⟨X.A.drewN _, X.O.drewN _⟩⟩, by simp [intOf]; omega⟩
                      · have hpos : (0 : Int) < (i' : Int) := by omega
                        have hposN : 0 < i' := by omega
                        have hposD : decide ((0 : Int) < (i' : Int)) = true := by simp; omega
                        have hposE : decide (0 < i') = true := by simp; omega
                        by_cases hxy : y < x
                        · go_wp2_with fail
                          go_quiet ((go_at_call 63; exact Calls.quiet_of_same ((in_any _ _ _ _).mono fun e w' h => ⟨h.1.trans (by rw [H1.out]), h.2.symm⟩)))
                          have hle : ¬ x ≤ y := by omega
                          go_wp2
                          exact ⟨⟨i' + 1, by omega, by go_num, Lib.hid (step_all (f := lkOkB l3) HA.out (by rw [HOK.out, H1.out]; simp [hxy])), ⟨X.A.drewN _, X.O.drewN _⟩⟩, by simp [intOf]; omega⟩
                        · have hle : x ≤ y := by omega
                          go_wp2_with fail
                          go_quiet ((go_at_call 63; exact Calls.quiet_of_same ((in_any _ _ _ _).mono fun e w' h => ⟨h.1.trans (by rw [H1.out]), h.2.symm⟩)))
                          go_wp2
                          go_ret
                          exact ⟨ret_bool (by rw [HANS.out, allB_false (f := lkOkB l3) hlt (by rw [HOK.out, H1.out]; simp [hi0]; omega)]; simp), below_drewN X.A.K _⟩
                  · obtain rfl : i' = m3 := by omega
                    have HB3 := Lib.hid (allB_true.2 HA.out)
                    clear HA hlt hi'
                    go_wp2_with fail
                    go_ret
                    exact ⟨ret_bool (by rw [HANS.out, HB0.out, HB1.out, HB3.out]; simp), X.A.K⟩
      · go_wp2_with fail
        go_ret
        exact ⟨ret_bool (by rw [HANS.out]; simp [e2]), ((Below.refl _ _).alloc (Nat.le_refl _) _).alloc (by simp) _⟩
    · go_wp2_with fail
      go_ret
      exact ⟨ret_bool (by rw [HANS.out]; simp [e1]), ((Below.refl _ _).alloc (Nat.le_refl _) _).alloc (by simp) _⟩
  · go_wp2_with fail
    go_ret
    exact ⟨ret_bool (by rw [HANS.out]; simp [e0]), T0.A.K⟩

end Go.Proofs.YtkefbmbjkijilaaGreatDoor
/- Ur -/
set_option linter.unusedVariables false
namespace Go.Proofs.YtkefbmbjkijilaaGreatDoor
open Go.RowKit

abbrev recC (r : RecD) : Value := .agg #[.int .i64 r.k, .int .i64 r.a, .int .i64 r.b]
set_option maxHeartbeats 2000000 in
theorem l6There_any (v : Value) (s : StD) (r : RecD) (w : World) (h : IsSt w w.heap.size v s) :
    Calls Tryz.prog 109 #[v, recC r] w fun e w' => e = .returned (.bool (thereB s r)) ∧ Below w.heap.size w w' := by
  obtain ⟨⟨A0, A1, A2, A3, c0, c1, c2, c3, rfl, -, -, -, -⟩, b0, b1, b2, b3⟩ := h
  obtain ⟨ph, co, ck, bo, ba, lb, l0, l1, l2, l3, gd, pr⟩ := s
  obtain ⟨k, a, b⟩ := r
  dsimp only at *
  unfold maxLen at b0 b1 b2 b3
  have h2 : k = 2 → thereB ⟨ph, co, ck, bo, ba, lb, l0, l1, l2, l3, gd, pr⟩ ⟨k, a, b⟩ = decide (a < l0.length) := fun h => by subst h; rfl
  have h3 : k = 3 ∨ k = 4 → thereB ⟨ph, co, ck, bo, ba, lb, l0, l1, l2, l3, gd, pr⟩ ⟨k, a, b⟩ = decide (a < l1.length) := fun h => by rcases h with rfl | rfl <;> rfl
  have h5 : k = 5 → thereB ⟨ph, co, ck, bo, ba, lb, l0, l1, l2, l3, gd, pr⟩ ⟨k, a, b⟩ = decide (a < l2.length) := fun h => by subst h; rfl
  have hn : k ≠ 2 → k ≠ 3 → k ≠ 4 → k ≠ 5 → thereB ⟨ph, co, ck, bo, ba, lb, l0, l1, l2, l3, gd, pr⟩ ⟨k, a, b⟩ = true := fun a1 a2 a3 a4 => by simp [thereB, a1, a2, a3, a4]
  generalize thereB ⟨ph, co, ck, bo, ba, lb, l0, l1, l2, l3, gd, pr⟩ ⟨k, a, b⟩ = ans at *
  generalize l0.length = n0 at *
  generalize l1.length = n1 at *
  generalize l2.length = n2 at *
  generalize l3.length = n3 at *
  have H2 := Lib.hid h2
  have H3 := Lib.hid h3
  have H5 := Lib.hid h5
  have HN := Lib.hid hn
  clear h2 h3 h5 hn
  unfold recC
  dsimp only
  have K0 := ((Below.refl w.heap.size w).alloc (Nat.le_refl _) (.cells (stC A0 A1 A2 A3 n0 c0 n1 c1 n2 c2 n3 c3 ph co ck bo ba lb gd pr) 46))
  have K1 := K0.alloc K0.size (.cells #[.int .i64 k, .int .i64 a, .int .i64 b] 96)
  have HK := Lib.hid K1
  clear K0 K1
  by_cases e2 : k = 2
  · have HA := Lib.hid (H2.out e2)
    subst e2
    go_enter Tryz.func109, Tryz.ntmps109
    go_wp2
    go_ret
    exact ⟨ret_bool HA.out.symm, HK.out⟩
  · by_cases e3 : k = 3
    · have HA := Lib.hid (H3.out (.inl e3))
      subst e3
      go_enter Tryz.func109, Tryz.ntmps109
      go_wp2
      go_ret
      exact ⟨ret_bool HA.out.symm, HK.out⟩
    · by_cases e4 : k = 4
      · have HA := Lib.hid (H3.out (.inr e4))
        subst e4
        go_enter Tryz.func109, Tryz.ntmps109
        go_wp2
        go_ret
        exact ⟨ret_bool HA.out.symm, HK.out⟩
      · by_cases e5 : k = 5
        · have HA := Lib.hid (H5.out e5)
          subst e5
          go_enter Tryz.func109, Tryz.ntmps109
          go_wp2
          go_ret
          exact ⟨ret_bool HA.out.symm, HK.out⟩
        · have HA := Lib.hid (HN.out e2 e3 e4 e5)
          have x2 : (k == 2) = false := by simp [e2]
          have x3 : (k == 3) = false := by simp [e3]
          have x4 : (k == 4) = false := by simp [e4]
          have x5 : (k == 5) = false := by simp [e5]
          go_enter Tryz.func109, Tryz.ntmps109
          go_wp2
          go_ret
          exact ⟨ret_bool HA.out.symm, HK.out⟩
end Go.Proofs.YtkefbmbjkijilaaGreatDoor
