/-
  The model's Framed.
-/
import Derived.Test.YtmgckdmglnmnnaaGreatDoorMZ1
import Derived.Test.YtmgckdmglnmnnaaGreatDoorMZ0
import Derived.Deep.AppendLies
import Derived.Deep.RegionHeld3
import Derived.BigQuiet
import Derived.Deep.QuietTactic
/- Bb -/
set_option linter.unusedVariables false
namespace Go.Proofs.YtmgckdmglnmnnaaGreatDoor
open Go.RowKit

/-- The names of the kinds. -/
def nameOf (i : Nat) : ByteArray := ⟨#[[], [112, 104, 97, 115, 101], [112, 111, 100], [98, 117, 115, 121], [102, 114, 101, 101], [103, 105, 118, 101], [108, 111, 99, 107], [117, 110, 108, 111, 99, 107], [99, 108, 111, 99, 107], [98, 97, 110, 100], [98, 111, 111, 116], [108, 111, 99, 107, 98, 121], [112, 114, 111, 98, 101]].getD i [] |>.toArray⟩
/-- The table of them lies in block 0. -/
structure Names (w : World) : Prop where
  lt : 0 < w.heap.size
  it : ∀ i, i < 13 → w.cell? ⟨0, i, none⟩ = some (.string (nameOf i))
theorem Names.go {w w' : World} (h : Names w) (hb : Below w.heap.size w w') : Names w' :=
  ⟨Nat.lt_of_lt_of_le h.lt hb.size, fun i hi => (hb.cell (p := ⟨0, i, none⟩) h.lt).trans (h.it i hi)⟩
theorem Names.keeps {S : Nat → Prop} {w w' : World} (h : Names w) (hk : Keeps S w w') (hS : ¬ S 0) : Names w' :=
  ⟨Nat.lt_of_lt_of_le h.lt hk.size, fun i hi => (hk.cell (p := ⟨0, i, none⟩) h.lt hS).trans (h.it i hi)⟩

/-- Has it a name? -/
def kindB (k : Int) : Bool := inB k 1 12
def nameStr (k : Int) : ByteArray := if inB k 0 12 then nameOf k.toNat else ⟨#[]⟩
set_option maxHeartbeats 400000 in
theorem kindString_any (k : Int) (w : World) (h : Names w) :
    Calls Tryz.prog 55 #[.int .i64 k] w fun e w' => e = .returned (.string (nameStr k)) ∧ w = w' := by
  have H := Lib.hid h
  clear h
  cases hk : inB k 0 12
  · have HE := Lib.hid (show nameStr k = ⟨#[]⟩ by unfold nameStr; rw [hk]; rfl)
    go_enter Tryz.func55, Tryz.ntmps55
    go_wp2_with (go_at_call 56; refine (isIndex_any _ _ _).mono ?_; rintro e w' ⟨rfl, rfl⟩)
    go_ret
    exact ⟨by rw [HE.out]; rfl, rfl⟩
  · have HE := Lib.hid (show nameStr k = nameOf k.toNat by unfold nameStr; rw [hk]; rfl)
    obtain ⟨h0, h1⟩ := inB_true.1 hk
    obtain ⟨i, rfl⟩ := Int.eq_ofNat_of_zero_le h0
    have hc := H.out.it i (by omega)
    have hlt : i < 13 := by omega
    clear h0 h1
    go_enter Tryz.func55, Tryz.ntmps55
    go_wp2_with (go_at_call 56; refine (isIndex_any _ _ _).mono ?_; rintro e w' ⟨rfl, rfl⟩)
    go_ret
    exact ⟨by rw [HE.out]; simp, rfl⟩
theorem nameStr_empty (k : Int) : (nameStr k).toList.isEmpty = !kindB k := by
  unfold nameStr kindB
  cases hk : inB k 0 12
  · have : inB k 1 12 = false := by
      cases h : inB k 1 12
      · rfl
      · rw [inB_true] at h
        rw [← Bool.not_eq_true, inB_true] at hk
        omega
    rw [this]
    show (⟨#[]⟩ : ByteArray).toList.isEmpty = true
    kernel_rfl
  · obtain ⟨h0, h1⟩ := inB_true.1 hk
    have : k = 0 ∨ k = 1 ∨ k = 2 ∨ k = 3 ∨ k = 4 ∨ k = 5 ∨ k = 6 ∨ k = 7 ∨ k = 8 ∨ k = 9 ∨ k = 10 ∨ k = 11 ∨ k = 12 := by omega
    rcases this with rfl | rfl | rfl | rfl | rfl | rfl | rfl | rfl | rfl | rfl | rfl | rfl | rfl <;> decide +kernel

set_option maxHeartbeats 400000 in
theorem recOk_any (r : RecD) (w : World) (h : Names w) :
    Calls Tryz.prog 25 #[recV r] w fun e w' => e = .returned (.bool (recOkB r)) ∧ Below w.heap.size w w' := by
  obtain ⟨k, a, b⟩ := r
  unfold recV
  dsimp only
  have H := Lib.hid h
  clear h
  have N1 : Hid (Names (w.alloc (.cells #[.int .i64 k, .int .i64 a, .int .i64 b] 56))) := Lib.hid (H.out.go ((Below.refl _ _).alloc (Nat.le_refl _) _))
  have HS := nameStr_empty k
  generalize hs : nameStr k = s at HS
  have HSK := Lib.hid hs
  clear hs
  cases h1 : kindB k
  · have HE := Lib.hid (show recOkB ⟨k, a, b⟩ = false by have h1 : inB k 1 12 = false := h1; simp [recOkB, h1])
    rw [h1] at HS
    clear h1
    have HL : s.toList = [] := by simpa using HS
    clear HS
    go_enter Tryz.func25, Tryz.ntmps25
    go_wp2_with (go_at_call 55; refine (kindString_any _ _ N1.out).mono ?_; rintro e w' ⟨rfl, rfl⟩; rw [HSK.out])
    go_ret
    exact ⟨by rw [HE.out]; rfl, (Below.refl _ _).alloc (Nat.le_refl _) _⟩
  · rw [h1] at HS
    have HL : ¬ s.toList = [] := by simpa using HS
    have HT : (!s.toList.isEmpty) = true := by rw [HS]; rfl
    clear HS
    cases h2 : inB a 0 1000000
    · have HE := Lib.hid (show recOkB ⟨k, a, b⟩ = false by have h1 : inB k 1 12 = true := h1; simp [recOkB, h1, h2])
      clear h1
      go_enter Tryz.func25, Tryz.ntmps25
      go_wp2_with (first | (go_at_call 55; refine (kindString_any _ _ N1.out).mono ?_; rintro e w' ⟨rfl, rfl⟩; rw [HSK.out]) | (go_at_call 18; refine (within_any _ _ _ _).mono ?_; rintro e w' ⟨rfl, rfl⟩))
      go_ret
      exact ⟨by rw [HE.out]; rfl, (Below.refl _ _).alloc (Nat.le_refl _) _⟩
    · have HE := Lib.hid (show recOkB ⟨k, a, b⟩ = inB b 0 1000000 by have h1 : inB k 1 12 = true := h1; simp [recOkB, h1, h2])
      clear h1
      go_enter Tryz.func25, Tryz.ntmps25
      go_wp2_with (first | (go_at_call 55; refine (kindString_any _ _ N1.out).mono ?_; rintro e w' ⟨rfl, rfl⟩; rw [HSK.out]) | (go_at_call 18; refine (within_any _ _ _ _).mono ?_; rintro e w' ⟨rfl, rfl⟩))
      go_ret
      exact ⟨by rw [HE.out]; rfl, (Below.refl _ _).alloc (Nat.le_refl _) _⟩

set_option maxHeartbeats 400000 in
theorem field_any (x : Int) (w : World) :
    Calls Tryz.prog 41 #[.int .i64 x] w fun e w' => e = .returned (.bool (inB x 0 1000000)) ∧ w = w' := by
  go_enter Tryz.func41, Tryz.ntmps41
  go_wp2_with (go_at_call 21; refine (in_any _ _ _ _).mono ?_; rintro e w' ⟨rfl, rfl⟩)
  go_ret
  exact ⟨rfl, rfl⟩
set_option maxHeartbeats 400000 in
theorem specRecOk_any (r : RecD) (w : World) :
    Calls Tryz.prog 96 #[recV r] w fun e w' => e = .returned (.bool (recOkB r)) ∧ Below w.heap.size w w' := by
  obtain ⟨k, a, b⟩ := r
  unfold recV
  dsimp only
  cases h1 : inB k 1 12
  · have HE := Lib.hid (show recOkB ⟨k, a, b⟩ = false by simp [recOkB, h1])
    go_enter Tryz.func96, Tryz.ntmps96
    go_wp2_with (go_at_call 21; refine (in_any _ _ _ _).mono ?_; rintro e w' ⟨rfl, rfl⟩)
    go_ret
    exact ⟨by rw [HE.out]; rfl, (Below.refl _ _).alloc (Nat.le_refl _) _⟩
  · cases h2 : inB a 0 1000000
    · have HE := Lib.hid (show recOkB ⟨k, a, b⟩ = false by simp [recOkB, h1, h2])
      go_enter Tryz.func96, Tryz.ntmps96
      go_wp2_with (first | (go_at_call 21; refine (in_any _ _ _ _).mono ?_; rintro e w' ⟨rfl, rfl⟩) | (go_at_call 41; refine (field_any _ _).mono ?_; rintro e w' ⟨rfl, rfl⟩))
      go_ret
      exact ⟨by rw [HE.out]; rfl, (Below.refl _ _).alloc (Nat.le_refl _) _⟩
    · have HE := Lib.hid (show recOkB ⟨k, a, b⟩ = inB b 0 1000000 by simp [recOkB, h1, h2])
      go_enter Tryz.func96, Tryz.ntmps96
      go_wp2_with (first | (go_at_call 21; refine (in_any _ _ _ _).mono ?_; rintro e w' ⟨rfl, rfl⟩) | (go_at_call 41; refine (field_any _ _).mono ?_; rintro e w' ⟨rfl, rfl⟩))
      go_ret
      exact ⟨by rw [HE.out]; rfl, (Below.refl _ _).alloc (Nat.le_refl _) _⟩
end Go.Proofs.YtmgckdmglnmnnaaGreatDoor
/- Bd -/
set_option linter.unusedVariables false
namespace Go.Proofs.YtmgckdmglnmnnaaGreatDoor
open Go.RowKit

/-- What a maker of bytes answers: a row of the call's own (from block B on) with the bytes L. -/
def GivesB (B : Nat) (L : List Nat) (w : World) (e : Ending) (w' : World) : Prop :=
  ∃ v, e = .returned v ∧ OB w' B v L ∧ Below B w w'
theorem putN_len3 {n : Nat} (h : n < 2097152) : (putN n).length ≤ 3 := (putN_length 3 n (by omega)).2 h
theorem OB.push {w w' : World} {B : Nat} {v v' : Value} {L : List Nat} (b : Nat) (h : OB w B v L) (hb : b < 256) (h' : w'.ownsRow B 5 1 v' (L.length + 1) (L.map byteV ++ [.int .u8 (b : Int)])) : OB w' B v' (L ++ [b]) :=
  ⟨by rw [List.length_append, List.map_append]; exact h', h.small.append (fun x hx => by rw [List.mem_singleton.1 hx]; exact hb)⟩

set_option maxRecDepth 100000 in
set_option maxHeartbeats 2000000 in
theorem put_any (v : Value) (L : List Nat) (n B : Nat) (w : World) (h : OB w B v L) (hB : B ≤ w.heap.size) (hn : n < 2097152) (hL : L.length ≤ 100000) :
    Calls Tryz.prog 119 #[v, .int .i64 n] w (GivesB B (L ++ putN n) w) := by
  have H := Lib.hid h
  have HB := Lib.hid hB
  clear h hB
  obtain ⟨i0, hi, hz0, hz1, hz2⟩ := info_parts info_u8
  have HI := Lib.hid hi
  have HZ0 := Lib.hid hz0
  have HZ1 := Lib.hid hz1
  have HZ2 := Lib.hid hz2
  clear hi hz0 hz1 hz2
  have hp := putN_len3 hn
  go_enter Tryz.func119, Tryz.ntmps119
  go_wp2
  go_loopw [0, 1] (fun s0 s1 wr => ∃ (m : Nat) (P : List Nat), s1 = .int .i64 m ∧ m < 2097152 ∧ P ++ putN m = putN n ∧ OB wr B s0 (L ++ P) ∧ Below B w wr) (fun _ s1 _ => (intOf s1).toNat)
  case atStart => exact ⟨n, [], rfl, hn, rfl, by rw [List.append_nil]; exact H.out, Below.refl _ _⟩
  case round =>
    obtain ⟨m, P, rfl, hm, hP, O, K⟩ := hrel
    have hlen : P.length + (putN m).length ≤ 3 := by rw [← List.length_append, hP]; exact hp
    have hpos := putN_pos m
    have hlen2 : (L ++ P).length + 1 ≤ 100004 := by rw [List.length_append]; omega
    have h63 : Hid ((L ++ P).length + 1 ≤ maxLen) := Lib.hid (by unfold maxLen; omega)
    have hby : Hid (((L ++ P).length + 1) * 1 ≤ 140737488355328) := Lib.hid (by omega)
    have HP := Lib.hid hP
    have HO := Lib.hid O
    have hsz := K.size
    have hbw : B ≤ wr.heap.size := Nat.le_trans HB.out hsz
    clear hlen hlen2 hP O hpos
    by_cases h128 : 128 ≤ m
    · have HB2 := Lib.hid (putN_big (n := m) (by omega))
      go_wp2_with ((at_builtin; refine wpList_append_own _ rfl _ _ 22 rfl B 5 i0 (.int .u8 0) 1 1 Tryz.underlying22 HI.out HZ0.out HZ1.out HZ2.out rfl (by decide) _ _ _ rfl (ownsRow_below HO.out.own ((Below.refl _ _).alloc (Nat.le_refl _) _)) ⟨wr.heap.size, 0, none⟩ 1 1 [.int .u8 ((m : Int) % 128 + 128)] rfl rfl (cell_one_new _ _ _) (fun x hx => by simp at hx; subst hx; rfl) h63.out hby.out (by simp; omega) ?_; intro v' w4 hown' hgrow hnil))
      refine ⟨⟨m / 128, P ++ [m % 128 + 128], by go_num, by omega, ?_, ?_, ?_⟩, by simp [intOf]; omega⟩
      · rw [List.append_assoc, ← HP.out, HB2.out]; rfl
      · rw [← List.append_assoc]
        exact OB.push (m % 128 + 128) HO.out (by omega) hown'
      · exact (K.alloc hbw _).grown hgrow (by simp; omega) fun r hr => (HO.out.lt hr).1
    · have HB2 := Lib.hid (putN_small (n := m) (by omega))
      have hm2 : m < 128 := by omega
      go_wp2_with ((at_builtin; refine wpList_append_own _ rfl _ _ 22 rfl B 5 i0 (.int .u8 0) 1 1 Tryz.underlying22 HI.out HZ0.out HZ1.out HZ2.out rfl (by decide) _ _ _ rfl (ownsRow_below HO.out.own ((Below.refl _ _).alloc (Nat.le_refl _) _)) ⟨wr.heap.size, 0, none⟩ 1 1 [.int .u8 (m : Int)] rfl rfl (cell_one_new _ _ _) (fun x hx => by simp at hx; subst hx; rfl) h63.out hby.out (by simp; omega) ?_; intro v' w4 hown' hgrow hnil))
      go_ret
      refine ⟨_, rfl, ?_, (K.alloc hbw _).grown hgrow (by simp; omega) fun r hr => (HO.out.lt hr).1⟩
      rw [← HP.out, HB2.out, ← List.append_assoc]
      exact OB.push m HO.out (by omega) hown'

/-- From w to wr only the row of v has turned; s is that row grown, or of new memory. -/
structure MovedB (w wr : World) (v s : Value) : Prop where
  keep : Keeps (fun r => v.ownBlock = some r) w wr
  own : ∀ r, s.ownBlock = some r → v.ownBlock = some r ∨ w.heap.size ≤ r
theorem MovedB.refl (w : World) (v : Value) : MovedB w w v v := ⟨Keeps.refl _ _, fun r hr => .inl hr⟩
theorem MovedB.alloc {w wr : World} {v s : Value} (h : MovedB w wr v s) (o : Obj) : MovedB w (wr.alloc o) v s :=
  ⟨h.keep.trans ((Keeps.of_below ((Below.refl _ _).alloc (Nat.le_refl _) o))), h.own⟩
theorem MovedB.grown {w wr w' : World} {v s : Value} {g n c : Nat} (h : MovedB w wr v s) (hg : wr.grownBy w' s.ownBlock) (hl : s.ownBlock = some g ∨ g = wr.heap.size) : MovedB w w' v (.slice (some ⟨g, 0, none⟩) n c) := by
  have hs := h.keep.size
  refine ⟨⟨hg.os.trans h.keep.os, hg.tape.trans h.keep.tape, hg.output.trans h.keep.output, Nat.le_trans hs hg.size, fun b hb hn => ?_⟩, fun r hr => ?_⟩
  · refine (hg.block b (Nat.lt_of_lt_of_le hb hs) fun e => ?_).trans (h.keep.block b hb hn)
    rcases h.own b e.symm with h1 | h1
    · exact hn h1
    · omega
  · have hr : g = r := by injection hr
    subst hr
    rcases hl with hl | hl
    · exact h.own _ hl
    · exact .inr (by omega)
theorem MovedB.cell {w wr : World} {v s : Value} (h : MovedB w wr v s) {p : Addr} (hp : p.block < w.heap.size) (hn : v.ownBlock ≠ some p.block) : wr.cell? p = w.cell? p := h.keep.cell hp hn
end Go.Proofs.YtmgckdmglnmnnaaGreatDoor
/- Be -/
set_option linter.unusedVariables false
namespace Go.Proofs.YtmgckdmglnmnnaaGreatDoor
open Go.RowKit

/-- There are not too many, and all are right. -/
def writeB (l : List RecD) : Bool := decide (l.length ≤ 80) && allOk l
theorem allOk_at {l : List RecD} : allB l.length (fun i => recOkB (recAt l i)) = allOk l := by
  rw [Bool.eq_iff_iff, allB_true]
  unfold allOk
  rw [List.all_eq_true]
  constructor
  · intro h r hr
    obtain ⟨i, hi, rfl⟩ := List.getElem_of_mem hr
    have := h i hi
    simpa [recAt, List.getD, hi] using this
  · intro h i hi
    simpa [recAt, List.getD, hi] using h _ (List.getElem_mem hi)

/-- What is written of records, as bytes; none where they can't be. -/
def wroteN (l : List RecD) : List Nat := if writeB l then putN l.length ++ recsN l else []
theorem wroteN_yes {l : List RecD} (h : writeB l = true) : wroteN l = putN l.length ++ recsN l := if_pos h
theorem wroteN_no {l : List RecD} (h : writeB l = false) : wroteN l = [] := if_neg (by rw [h]; decide)
theorem recsN_take {l : List RecD} {k : Nat} (hk : k < l.length) : recsN (l.take (k + 1)) = recsN (l.take k) ++ recN (recAt l k) := by
  rw [List.take_succ_eq_append_getElem hk, recsN_append]
  simp [recsN, recAt, List.getD, hk]
theorem recN_len {r : RecD} (h : recOkB r = true) : (recN r).length ≤ 9 := by
  have := recOkB_true.1 h
  have h1 := putN_len3 (n := r.k.toNat) (by omega)
  have h2 := putN_len3 (n := r.a.toNat) (by omega)
  have h3 := putN_len3 (n := r.b.toNat) (by omega)
  simp only [recN, List.length_append]
  omega
theorem recsN_len {l : List RecD} (h : allOk l = true) : (recsN l).length ≤ 9 * l.length := by
  induction l with
  | nil => simp [recsN]
  | cons r l ih =>
    simp only [allOk, List.all_cons, Bool.and_eq_true] at h
    have h1 := recN_len h.1
    have h2 := ih h.2
    simp only [recsN, List.length_append, List.length_cons]
    omega
theorem writeB_true {l : List RecD} (h : writeB l = true) : l.length ≤ 80 ∧ allOk l = true := by simpa [writeB] using h
theorem wroteN_len (l : List RecD) : (wroteN l).length ≤ 723 := by
  cases h : writeB l
  · rw [wroteN_no h]; simp
  · obtain ⟨h1, h2⟩ := writeB_true h
    rw [wroteN_yes h, List.length_append]
    have := recsN_len h2
    have := putN_len3 (n := l.length) (by omega)
    omega
theorem allOk_get {l : List RecD} (h : allOk l = true) {k : Nat} (hk : k < l.length) : recOkB (recAt l k) = true := by
  rw [← allOk_at] at h
  exact allB_true.1 h k hk
/-- What RecBytes answers. -/
def Wrote (l : List RecD) (w : World) (e : Ending) (w' : World) : Prop :=
  ∃ v, e = .returned (.tuple #[v, .bool (writeB l)]) ∧ OB w' w.heap.size v (wroteN l) ∧ Below w.heap.size w w'

end Go.Proofs.YtmgckdmglnmnnaaGreatDoor
/- BeS -/
set_option linter.unusedVariables false
namespace Go.Proofs.YtmgckdmglnmnnaaGreatDoor
open Go.RowKit

theorem allOk_take {l : List RecD} {k : Nat} (h : allOk (l.take k) = true) (hk : k < l.length) : allOk (l.take (k + 1)) = recOkB (recAt l k) := by
  unfold allOk at *
  rw [List.take_succ_eq_append_getElem hk, List.all_append, h]
  simp [recAt, List.getD, hk]
set_option maxRecDepth 100000 in
set_option maxHeartbeats 4000000 in
theorem specRecBytes_any (v : Value) (l : List RecD) (w : World) (h : Rt w w.heap.size v l) :
    Calls Tryz.prog 105 #[v] w (Wrote l w) := by
  have H := Lib.hid h
  obtain ⟨⟨A, c, rfl, -⟩, hl⟩ := h
  have hl' : l.length ≤ 2 ^ 63 - 1 := by unfold maxLen at hl; omega
  clear hl
  generalize hq : l.length = q at *
  have HQ := Lib.hid hq
  clear hq
  by_cases h80 : q ≤ 80
  · go_enter Tryz.func105, Tryz.ntmps105
    go_wp2_with fail
    have O1 : OB (w.alloc (.cells #[] 5)) w.heap.size (.slice (some ⟨w.heap.size, 0, none⟩) 0 0) [] := OB.empty (Nat.le_refl _)
    refine (put_any _ [] q w.heap.size _ O1 (by simp) (by omega) (by simp)).mono ?_
    rintro e w2 ⟨v2, rfl, O2, K2⟩
    have O2 : OB w2 w.heap.size v2 (putN q) := by simpa using O2
    have K2 := ((Below.refl w.heap.size w).alloc (Nat.le_refl _) (.cells #[] 5)).trans K2
    clear O1
    go_wp2_with fail
    go_loopw [4, 5] (fun s4 s5 wr => ∃ k : Nat, k ≤ q ∧ s5 = .int .i64 k ∧ allOk (l.take k) = true ∧ OB wr w.heap.size s4 (putN q ++ recsN (l.take k)) ∧ Below w.heap.size w wr) (fun _ s5 _ => q - (intOf s5).toNat)
    case atStart => exact ⟨0, Nat.zero_le _, rfl, rfl, by simpa [recsN] using O2, K2⟩
    case round =>
      clear O2 K2
      obtain ⟨k, hk, rfl, hall, O, K⟩ := hrel
      have HA := Lib.hid hall
      clear hall
      by_cases hlt : k < q
      · obtain ⟨b, off, rfl, hb, q0, q1, q2⟩ := (H.out.below K (Nat.le_refl _)).cell (i := k) (by rw [HQ.out]; exact hlt)
        have HT := Lib.hid (recsN_take (l := l) (k := k) (by rw [HQ.out]; exact hlt))
        have HR := Lib.hid (allOk_take HA.out (by rw [HQ.out]; exact hlt))
        have hlen : (putN q ++ recsN (l.take k)).length ≤ 1000 := by
          have h1 := putN_len3 (n := q) (by omega)
          have h2 := recsN_len HA.out
          rw [List.length_take] at h2
          rw [List.length_append]
          omega
        have HLEN := Lib.hid hlen
        generalize hrr : recAt l k = r at *
        have HRR := Lib.hid hrr
        have HO := Lib.hid O
        have HK := Lib.hid K
        clear O K hlen hrr
        cases hok : recOkB r
        · have HOK := Lib.hid hok
          clear hok
          go_wp2_with fail
          refine (specRecOk_any r _).mono ?_
          rintro e w3 ⟨rfl, hb3⟩
          rw [HOK.out]
          go_wp2_with fail
          go_ret2
          have hW : writeB l = false := by
            cases hw : writeB l
            · rfl
            · have := allOk_get (writeB_true hw).2 (k := k) (by rw [HQ.out]; exact hlt)
              rw [HRR.out, HOK.out] at this
              cases this
          refine ⟨_, ret_two rfl (bool_eq hW.symm), ?_, (HK.out.trans (hb3.mono HK.out.size)).alloc (Nat.le_trans HK.out.size hb3.size) _⟩
          rw [wroteN_no hW]
          exact OB.empty (Nat.le_trans HK.out.size hb3.size)
        · have HOK := Lib.hid hok
          obtain ⟨rk, ra, rb⟩ := r
          have hr := recOkB_true.1 hok
          dsimp only at hr q0 q1 q2
          obtain ⟨nk, rfl⟩ := Int.eq_ofNat_of_zero_le (show 0 ≤ rk by omega)
          obtain ⟨na, rfl⟩ := Int.eq_ofNat_of_zero_le (show 0 ≤ ra by omega)
          obtain ⟨nb, rfl⟩ := Int.eq_ofNat_of_zero_le (show 0 ≤ rb by omega)
          clear hok
          go_wp2_with fail
          refine (specRecOk_any ⟨nk, na, nb⟩ _).mono ?_
          rintro e w3 ⟨rfl, hb3⟩
          rw [HOK.out]
          have q0 := (hb3.cell (p := ⟨b, off + k * 3, none⟩) (by have := HK.out.size; show b < _; omega)).trans q0
          have q1 := (hb3.cell (p := ⟨b, off + k * 3 + 1, none⟩) (by have := HK.out.size; show b < _; omega)).trans q1
          have q2 := (hb3.cell (p := ⟨b, off + k * 3 + 2, none⟩) (by have := HK.out.size; show b < _; omega)).trans q2
          have HO := Lib.hid (HO.out.below hb3)
          have HK := Lib.hid (HK.out.trans (hb3.mono HK.out.size))
          go_wp2_with fail
          have S3 : w3.cell? ⟨b, off + k * 3, none⟩ = some (.int .i64 nk) ∧ w3.cell? ⟨b, off + k * 3 + 1, none⟩ = some (.int .i64 na) ∧ w3.cell? ⟨b, off + k * 3 + 2, none⟩ = some (.int .i64 nb) := ⟨q0, q1, q2⟩
          have c0 : Hid (∀ w4 : World, Below w.heap.size w3 w4 → w4.cell? ⟨b, off + k * 3, none⟩ = some (.int .i64 nk) ∧ w4.cell? ⟨b, off + k * 3 + 1, none⟩ = some (.int .i64 na) ∧ w4.cell? ⟨b, off + k * 3 + 2, none⟩ = some (.int .i64 nb)) := Lib.hid fun w4 h4 =>
            ⟨(h4.cell (p := ⟨b, off + k * 3, none⟩) hb).trans q0, (h4.cell (p := ⟨b, off + k * 3 + 1, none⟩) hb).trans q1, (h4.cell (p := ⟨b, off + k * 3 + 2, none⟩) hb).trans q2⟩
          have hsz := HK.out.size
          have hnk : nk < 2097152 := by omega
          have hna : na < 2097152 := by omega
          have hnb : nb < 2097152 := by omega
          have hl1 := HLEN.out
          have hl2 : ((putN q ++ recsN (l.take k)) ++ putN nk).length ≤ 2000 := by rw [List.length_append]; have := putN_len3 hnk; omega
          have hl3 : (((putN q ++ recsN (l.take k)) ++ putN nk) ++ putN na).length ≤ 3000 := by rw [List.length_append]; have := putN_len3 hna; omega
          have HL1 := Lib.hid hl1
          have HL2 := Lib.hid hl2
          have HL3 := Lib.hid hl3
          clear hl1 hl2 hl3 q0 q1 q2
          go_region_held3 (fun w' => w'.cell? ⟨b, off + k * 3, none⟩ = some (.int .i64 nk) ∧ w'.cell? ⟨b, off + k * 3 + 1, none⟩ = some (.int .i64 na) ∧ w'.cell? ⟨b, off + k * 3 + 2, none⟩ = some (.int .i64 nb))
            (first | exact S3 | exact S4 | exact S5 | exact S6)
            (first
              | (have hq := O5
                 clear hq
                 go_at_call 119
                 refine (put_any v5 _ nb w.heap.size _ O5.out (Nat.le_trans hsz (Nat.le_trans K4.out.size K5.out.size)) hnb (Nat.le_trans HL3.out (by decide))).mono ?_
                 rintro e w6 ⟨v6, rfl, O6, K6⟩
                 have O6 := Lib.hid O6
                 have K6 := Lib.hid K6
                 have S6 := c0.out _ ((K4.out.trans K5.out).trans K6.out))
              | (have hq := O4
                 clear hq
                 go_at_call 119
                 refine (put_any v4 _ na w.heap.size _ O4.out (Nat.le_trans hsz K4.out.size) hna (Nat.le_trans HL2.out (by decide))).mono ?_
                 rintro e w5 ⟨v5, rfl, O5, K5⟩
                 have O5 := Lib.hid O5
                 have K5 := Lib.hid K5
                 have S5 := c0.out _ (K4.out.trans K5.out))
              | (go_at_call 119
                 refine (put_any _ _ nk w.heap.size _ (HO.out.below (Below.refl _ _).drew) hsz hnk (Nat.le_trans HL1.out (by decide))).mono ?_
                 rintro e w4 ⟨v4, rfl, O4, K4⟩
                 have O4 := Lib.hid O4
                 have K4 := Lib.hid ((Below.refl w.heap.size w3).drew.trans K4)
                 have S4 := c0.out _ K4.out))
          clear S3 S4 S5 S6 c0
          have HT6 := Lib.hid ((K4.out.trans K5.out).trans K6.out)
          go_wp2_with fail
          refine ⟨⟨k + 1, by omega, by go_num, by rw [HR.out]; exact HOK.out, ?_, HK.out.trans HT6.out⟩, by simp [intOf]; omega⟩
          rw [HT.out]
          have := O6.out
          simpa [recN] using this
      · obtain rfl : k = q := by omega
        go_wp2
        go_ret2
        have e1 : l.take k = l := List.take_of_length_le (by rw [HQ.out]; exact Nat.le_refl _)
        have hA := HA.out
        rw [e1] at O hA
        have hW : writeB l = true := by simp [writeB, HQ.out, h80, hA]
        refine ⟨_, ret_two rfl (bool_eq hW.symm), ?_, K⟩
        rw [wroteN_yes hW, HQ.out]
        exact O
  · have hW : Hid (writeB l = false) := Lib.hid (by simp [writeB, HQ.out, h80])
    go_enter Tryz.func105, Tryz.ntmps105
    go_wp2_with fail
    go_ret2
    refine ⟨_, ret_two rfl (bool_eq hW.out.symm), ?_, (Below.refl _ _).alloc (Nat.le_refl _) _⟩
    rw [wroteN_no hW.out]
    exact OB.empty (Nat.le_refl _)
end Go.Proofs.YtmgckdmglnmnnaaGreatDoor
/- Ea -/
set_option linter.unusedVariables false
namespace Go.Proofs.YtmgckdmglnmnnaaGreatDoor
open Go.RowKit

theorem sumN_take {L : List Nat} {k : Nat} (hk : k < L.length) : sumN (L.take (k + 1)) = (31 * sumN (L.take k) + L.getD k 0) % 65521 := by
  rw [List.take_succ_eq_append_getElem hk]
  unfold sumN
  rw [List.foldl_append]
  simp [List.getD, hk]
set_option maxHeartbeats 1000000 in
theorem specSumOf_any (v : Value) (L : List Nat) (w : World) (h : Bt w w.heap.size v L) :
    Calls Tryz.prog 107 #[v] w fun e w' => e = .returned (.int .i64 (sumN L)) ∧ w = w' := by
  have H := Lib.hid h
  obtain ⟨⟨A, c, rfl, hcap, -⟩, hl, hs⟩ := h
  have HS := Lib.hid hs
  have hl' : L.length ≤ 2 ^ 63 - 1 := by unfold maxLen at hl; omega
  clear hs hl hcap
  generalize hn : L.length = n at *
  have HN := Lib.hid hn
  clear hn
  go_enter Tryz.func107, Tryz.ntmps107
  go_wp2
  go_loop [3, 4] (fun s3 s4 => ∃ k : Nat, k ≤ n ∧ s4 = .int .i64 k ∧ s3 = .int .i64 (sumN (L.take k))) (fun _ s4 => n - (intOf s4).toNat)
  case atStart => exact ⟨0, Nat.zero_le _, rfl, rfl⟩
  case round =>
    obtain ⟨k, hk, rfl, rfl⟩ := hrel
    by_cases hlt : k < n
    · obtain ⟨b, off, rfl, hb, q⟩ := H.out.cell (k := k) (by rw [HN.out]; exact hlt)
      have zlt := HS.out.getD k
      have hsum := Lib.hid (sumN_take (L := L) (k := k) (by rw [HN.out]; exact hlt))
      have slt := sumN_lt (L.take k)
      generalize L.getD k 0 = z at *
      generalize sumN (L.take k) = s at *
      go_wp2
      refine ⟨⟨k + 1, by omega, by go_num, ?_⟩, by simp [intOf]; omega⟩
      rw [hsum.out]
      go_num
    · obtain rfl : k = n := by omega
      have e1 := Lib.hid (show L.take k = L from List.take_of_length_le (by rw [HN.out]; exact Nat.le_refl _))
      go_wp2
      go_ret
      exact ⟨by rw [e1.out]; rfl, rfl⟩

end Go.Proofs.YtmgckdmglnmnnaaGreatDoor
/- Ek -/
set_option linter.unusedVariables false
namespace Go.Proofs.YtmgckdmglnmnnaaGreatDoor
open Go.RowKit

theorem OB.two {w : World} {B : Nat} (hB : B ≤ w.heap.size) {x y : Nat} (hx : x < 256) (hy : y < 256) : OB (w.alloc (.cells #[.int .u8 x, .int .u8 y] 5)) B (.slice (some ⟨w.heap.size, 0, none⟩) 2 2) [x, y] := by
  refine ⟨⟨rfl, .inr ⟨w.heap.size, 2, _, rfl, hB, heap_alloc_new w _, Nat.le_refl _, by unfold maxLen; decide, rfl, rfl⟩⟩, fun z hz => ?_⟩
  rcases List.mem_cons.1 hz with rfl | hz
  · exact hx
  · obtain rfl : z = y := by simpa using hz
    exact hy
set_option maxHeartbeats 400000 in
theorem l4Two_any (n : Nat) (w : World) (hn : n < 65536) :
    Calls Tryz.prog 106 #[.int .i64 n] w fun e w' => ∃ v, e = .returned v ∧ OB w' w.heap.size v (twoN n) ∧ Below w.heap.size w w' := by
  go_enter Tryz.func106, Tryz.ntmps106
  go_wp2
  go_ret
  refine ⟨_, rfl, ?_, (Below.refl _ _).alloc (Nat.le_refl _) _⟩
  have := OB.two (w := w) (Nat.le_refl _) (x := n % 256) (y := n / 256) (by omega) (by omega)
  first
    | exact this
    | (simpa [twoN] using this)

/-- What Framed answers. -/
def framedD (l : List RecD) : List Nat := if writeB l then frameN (wroteN l) else []
theorem framedD_yes {l : List RecD} (h : writeB l = true) : framedD l = frameN (wroteN l) := if_pos h
theorem framedD_no {l : List RecD} (h : writeB l = false) : framedD l = [] := if_neg (by rw [h]; decide)
def FramedD (l : List RecD) (w : World) (e : Ending) (w' : World) : Prop :=
  ∃ v, e = .returned (.tuple #[v, .bool (writeB l)]) ∧ OB w' w.heap.size v (framedD l) ∧ Below w.heap.size w w'
theorem wroteN_pos {l : List RecD} (h : writeB l = true) : 0 < (wroteN l).length := by
  rw [wroteN_yes h, List.length_append]
  have := putN_pos l.length
  omega
theorem news_bytes {w : World} {g : Nat} {L : List Nat} (hC : ∀ j, j < L.length → w.cell? ⟨g, j, none⟩ = some (.int .u8 (L.getD j 0 : Nat))) : ∀ j u, (L.map byteV)[j]? = some u → w.cell? ((⟨g, 0, none⟩ : Addr).add j) = some u := fun j u hu => by
  have hj : j < L.length := by
    have := (List.getElem?_eq_some_iff.1 hu).1
    simpa using this
  rw [byteV_get hj] at hu
  cases hu
  rw [add_zero_block]
  exact hC j hj
theorem one_bytes {L : List Nat} : ∀ u ∈ L.map byteV, u.oneCell' = true := fun u hu => by
  obtain ⟨z, _, rfl⟩ := List.mem_map.1 hu
  rfl
set_option maxRecDepth 100000 in
set_option maxHeartbeats 2000000 in
theorem specFramed_any (v : Value) (l : List RecD) (w : World) (h : Rt w w.heap.size v l) :
    Calls Tryz.prog 94 #[v] w (FramedD l w) := by
  have H := Lib.hid h
  obtain ⟨i0, hi, hz0, hz1, hz2⟩ := info_parts info_u8
  have HI := Lib.hid hi
  have HZ0 := Lib.hid hz0
  have HZ1 := Lib.hid hz1
  have HZ2 := Lib.hid hz2
  clear h hi hz0 hz1 hz2
  go_enter Tryz.func94, Tryz.ntmps94
  go_wp2_with fail
  refine (specRecBytes_any v l w H.out).mono ?_
  rintro e w1 ⟨v1, rfl, O1, K1⟩
  have HO1 := Lib.hid O1
  have HK1 := Lib.hid K1
  have hlen := wroteN_len l
  have hbt := O1.bt
  obtain ⟨A1, c1, g1, rfl, hcap, hA1, hB1, hg1, C1⟩ := O1.open_
  have HBT := Lib.hid hbt
  have HC1 := Lib.hid C1
  clear O1 K1 hbt C1
  cases hw : writeB l
  · have HW := Lib.hid hw
    clear hw
    go_wp2_with fail
    go_ret2
    refine ⟨_, ret_two rfl (bool_eq HW.out.symm), ?_, HK1.out.alloc HK1.out.size _⟩
    rw [framedD_no HW.out]
    exact OB.empty HK1.out.size
  · have HW := Lib.hid hw
    have hpos := wroteN_pos hw
    have hg1' := hg1 hpos
    obtain rfl := hA1 hpos
    clear hw hg1 hA1
    have HF := Lib.hid (framedD_yes HW.out)
    generalize wroteN l = M at *
    generalize hm : M.length = m at *
    have HM := Lib.hid hm
    clear hm
    go_wp2_with fail
    refine (l4Two_any m w1 (by omega)).mono ?_
    rintro e w2 ⟨v2, rfl, O2, K2⟩
    have HO2 := Lib.hid O2
    have HK2 := Lib.hid K2
    clear O2 K2
    go_wp2_with fail
    refine (specSumOf_any _ M w2 (HBT.out.go HK2.out)).mono ?_
    rintro e w3 ⟨rfl, rfl⟩
    have hs := sumN_lt M
    generalize hsm : sumN M = s at *
    have HSM := Lib.hid hsm
    clear hsm
    go_wp2_with fail
    refine (l4Two_any s w2 (by omega)).mono ?_
    rintro e w3 ⟨v3, rfl, O3, K3⟩
    have HO3 := Lib.hid O3
    have HK3 := Lib.hid K3
    have hl3 : (twoN s).length = 2 := rfl
    obtain ⟨A3, c3, g3, rfl, hcap3, hA3, hB3, hg3, C3⟩ := O3.open_
    obtain rfl := hA3 (by rw [hl3]; decide)
    have HC3 := Lib.hid C3
    clear O3 K3 hA3 hg3 C3
    rw [hl3] at *
    have HR2 := Lib.hid (ownsRow_below HO2.out.own HK3.out)
    have hl2 : (twoN m).length = 2 := rfl
    rw [hl2] at HR2
    have hb3 := Nat.le_trans HK2.out.size HK3.out.size
    have HN3 : Hid (∀ j u, ((twoN s).map byteV)[j]? = some u → w3.cell? ((⟨g3, 0, none⟩ : Addr).add j) = some u) := Lib.hid (news_bytes fun j hj => (HC3.out j hj).1)
    have HK := Lib.hid ((HK1.out.trans (HK2.out.mono HK1.out.size)).trans (HK3.out.mono (Nat.le_trans HK1.out.size HK2.out.size)))
    have HN1 : Hid (∀ j, j < M.length → w3.cell? ⟨g1, j, none⟩ = some (.int .u8 (M.getD j 0 : Nat))) := Lib.hid fun j hj =>
      ((HK3.out.mono HK2.out.size).cell (p := ⟨g1, j, none⟩) hg1').trans ((HK2.out.cell (p := ⟨g1, j, none⟩) hg1').trans (HC1.out j (by rw [HM.out] at hj; exact hj)).1)
    have HV2 : Hid (∀ r, v2.ownBlock = some r → w1.heap.size ≤ r) := Lib.hid fun r hr => (HO2.out.lt hr).1
    have HS : Hid (SmallB (frameN M)) := Lib.hid (by
      unfold frameN
      rw [HM.out, HSM.out]
      exact HO2.out.small.append (HO3.out.small.append HO1.out.small))
    clear HC1 HC3 HK2 HK3 HBT HO3
    go_wp2_with (first
      | (at_builtin; refine wpList_append_own _ rfl _ _ 22 rfl w1.heap.size 5 i0 (.int .u8 0) 1 1 Tryz.underlying22 HI.out HZ0.out HZ1.out HZ2.out rfl (by decide) v2 2 _ rfl HR2.out ⟨g3, 0, none⟩ 2 c3 ((twoN s).map byteV) rfl rfl HN3.out one_bytes (by unfold maxLen; decide) (by decide) hb3 ?_; clear HR2; intro v4 w4 hown4 hgrow4 hnil4; have HR4 := Lib.hid hown4; have HG4 := Lib.hid hgrow4; clear hown4 hgrow4)
      | (at_builtin; (refine wpList_append_own _ rfl _ _ 22 rfl w1.heap.size 5 i0 (.int .u8 0) 1 1 Tryz.underlying22 HI.out HZ0.out HZ1.out HZ2.out rfl (by decide) v4 4 _ rfl HR4.out ⟨g1, 0, none⟩ m c1 (M.map byteV) rfl (by rw [List.length_map, HM.out, Nat.mul_one]) (news_bytes fun j hj => HG4.out.cell (HN1.out j hj) (fun e => by have : w1.heap.size ≤ g1 := HV2.out g1 e.symm; omega)) one_bytes (by unfold maxLen; omega) (by omega) (Nat.le_trans hb3 HG4.out.size) ?_; intro v5 w5 hown5 hgrow5 hnil5)))
    go_ret2
    refine ⟨_, ret_two rfl (bool_eq HW.out.symm), ⟨?_, by rw [HF.out]; exact HS.out⟩, ?_⟩
    · rw [HF.out, frameN_length]
      have e1 : (frameN M).map byteV = (twoN m).map byteV ++ (twoN s).map byteV ++ M.map byteV := by
        unfold frameN
        rw [HM.out, HSM.out, List.map_append, List.map_append, List.append_assoc]
      rw [e1, HM.out]
      exact ownsRow_base hown5 HK1.out.size
    · exact (HK.out.grown HG4.out HK.out.size (fun r hr => Nat.le_trans HK1.out.size (HV2.out r hr))).grown hgrow5 (Nat.le_trans HK.out.size HG4.out.size) (fun r hr => Nat.le_trans HK1.out.size (World.ownsRow.lt HR4.out r hr).1)
end Go.Proofs.YtmgckdmglnmnnaaGreatDoor
