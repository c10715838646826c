/-
  A number put behind bytes: the model's l3Put, the program's withNumbers.
-/
import Derived.Test.YtcpmkbemkhacnaaDoorBb
import Derived.Test.YtcpmkbemkhacnaaDoorRc
import Derived.Deep.AppendLies
set_option linter.unusedVariables false
namespace Go.Proofs.YtcpmkbemkhacnaaDoor
open Go.RowKit

/-- What a maker of bytes answers: a row of the call's own (from block B on) with the bytes L. -/
def GivesB (B : Nat) (L : List Nat) (w : World) (e : Ending) (w' : World) : Prop :=
  ∃ v, e = .returned v ∧ OB w' B v L ∧ Below B w w'
theorem putN_len3 {n : Nat} (h : n < 2097152) : (putN n).length ≤ 3 := (putN_length 3 n (by omega)).2 h
theorem OB.push {w w' : World} {B : Nat} {v v' : Value} {L : List Nat} (b : Nat) (h : OB w B v L) (hb : b < 256) (h' : w'.ownsRow B 5 1 v' (L.length + 1) (L.map byteV ++ [.int .u8 (b : Int)])) : OB w' B v' (L ++ [b]) :=
  ⟨by rw [List.length_append, List.map_append]; exact h', h.small.append (fun x hx => by rw [List.mem_singleton.1 hx]; exact hb)⟩

set_option maxRecDepth 100000 in
set_option maxHeartbeats 2000000 in
theorem put_any (v : Value) (L : List Nat) (n B : Nat) (w : World) (h : OB w B v L) (hB : B ≤ w.heap.size) (hn : n < 2097152) (hL : L.length ≤ 100000) :
    Calls Tryd.prog 59 #[v, .int .i64 n] w (GivesB B (L ++ putN n) w) := by
  have H := Lib.hid h
  have HB := Lib.hid hB
  clear h hB
  obtain ⟨i0, hi, hz0, hz1, hz2⟩ := info_parts info_u8
  have HI := Lib.hid hi
  have HZ0 := Lib.hid hz0
  have HZ1 := Lib.hid hz1
  have HZ2 := Lib.hid hz2
  clear hi hz0 hz1 hz2
  have hp := putN_len3 hn
  go_enter Tryd.func59, Tryd.ntmps59
  go_wp2
  go_loopw [0, 1] (fun s0 s1 wr => ∃ (m : Nat) (P : List Nat), s1 = .int .i64 m ∧ m < 2097152 ∧ P ++ putN m = putN n ∧ OB wr B s0 (L ++ P) ∧ Below B w wr) (fun _ s1 _ => (intOf s1).toNat)
  case atStart => exact ⟨n, [], rfl, hn, rfl, by rw [List.append_nil]; exact H.out, Below.refl _ _⟩
  case round =>
    obtain ⟨m, P, rfl, hm, hP, O, K⟩ := hrel
    have hlen : P.length + (putN m).length ≤ 3 := by rw [← List.length_append, hP]; exact hp
    have hpos := putN_pos m
    have hlen2 : (L ++ P).length + 1 ≤ 100004 := by rw [List.length_append]; omega
    have h63 : Hid ((L ++ P).length + 1 ≤ maxLen) := Lib.hid (by unfold maxLen; omega)
    have hby : Hid (((L ++ P).length + 1) * 1 ≤ 140737488355328) := Lib.hid (by omega)
    have HP := Lib.hid hP
    have HO := Lib.hid O
    have hsz := K.size
    have hbw : B ≤ wr.heap.size := Nat.le_trans HB.out hsz
    clear hlen hlen2 hP O hpos
    by_cases h128 : 128 ≤ m
    · have HB2 := Lib.hid (putN_big (n := m) (by omega))
      go_wp2_with ((at_builtin; refine wpList_append_own _ rfl _ _ 22 rfl B 5 i0 (.int .u8 0) 1 1 Tryd.underlying22 HI.out HZ0.out HZ1.out HZ2.out rfl (by decide) _ _ _ rfl (ownsRow_below HO.out.own ((Below.refl _ _).alloc (Nat.le_refl _) _)) ⟨wr.heap.size, 0, none⟩ 1 1 [.int .u8 ((m : Int) % 128 + 128)] rfl rfl (cell_one_new _ _ _) (fun x hx => by simp at hx; subst hx; rfl) h63.out hby.out (by simp; omega) ?_; intro v' w4 hown' hgrow hnil))
      refine ⟨⟨m / 128, P ++ [m % 128 + 128], by go_num, by omega, ?_, ?_, ?_⟩, by simp [intOf]; omega⟩
      · rw [List.append_assoc, ← HP.out, HB2.out]; rfl
      · rw [← List.append_assoc]
        exact OB.push (m % 128 + 128) HO.out (by omega) hown'
      · exact (K.alloc hbw _).grown hgrow (by simp; omega) fun r hr => (HO.out.lt hr).1
    · have HB2 := Lib.hid (putN_small (n := m) (by omega))
      have hm2 : m < 128 := by omega
      go_wp2_with ((at_builtin; refine wpList_append_own _ rfl _ _ 22 rfl B 5 i0 (.int .u8 0) 1 1 Tryd.underlying22 HI.out HZ0.out HZ1.out HZ2.out rfl (by decide) _ _ _ rfl (ownsRow_below HO.out.own ((Below.refl _ _).alloc (Nat.le_refl _) _)) ⟨wr.heap.size, 0, none⟩ 1 1 [.int .u8 (m : Int)] rfl rfl (cell_one_new _ _ _) (fun x hx => by simp at hx; subst hx; rfl) h63.out hby.out (by simp; omega) ?_; intro v' w4 hown' hgrow hnil))
      go_ret
      refine ⟨_, rfl, ?_, (K.alloc hbw _).grown hgrow (by simp; omega) fun r hr => (HO.out.lt hr).1⟩
      rw [← HP.out, HB2.out, ← List.append_assoc]
      exact OB.push m HO.out (by omega) hown'

/-- From w to wr only the row of v has turned; s is that row grown, or of new memory. -/
structure Moved (w wr : World) (v s : Value) : Prop where
  keep : Keeps (fun r => v.ownBlock = some r) w wr
  own : ∀ r, s.ownBlock = some r → v.ownBlock = some r ∨ w.heap.size ≤ r
theorem Moved.refl (w : World) (v : Value) : Moved w w v v := ⟨Keeps.refl _ _, fun r hr => .inl hr⟩
theorem Moved.alloc {w wr : World} {v s : Value} (h : Moved w wr v s) (o : Obj) : Moved w (wr.alloc o) v s :=
  ⟨h.keep.trans ((Keeps.of_below ((Below.refl _ _).alloc (Nat.le_refl _) o))), h.own⟩
theorem Moved.grown {w wr w' : World} {v s : Value} {g n c : Nat} (h : Moved w wr v s) (hg : wr.grownBy w' s.ownBlock) (hl : s.ownBlock = some g ∨ g = wr.heap.size) : Moved w w' v (.slice (some ⟨g, 0, none⟩) n c) := by
  have hs := h.keep.size
  refine ⟨⟨hg.os.trans h.keep.os, hg.tape.trans h.keep.tape, hg.output.trans h.keep.output, Nat.le_trans hs hg.size, fun b hb hn => ?_⟩, fun r hr => ?_⟩
  · refine (hg.block b (Nat.lt_of_lt_of_le hb hs) fun e => ?_).trans (h.keep.block b hb hn)
    rcases h.own b e.symm with h1 | h1
    · exact hn h1
    · omega
  · have hr : g = r := by injection hr
    subst hr
    rcases hl with hl | hl
    · exact h.own _ hl
    · exact .inr (by omega)
theorem Moved.cell {w wr : World} {v s : Value} (h : Moved w wr v s) {p : Addr} (hp : p.block < w.heap.size) (hn : v.ownBlock ≠ some p.block) : wr.cell? p = w.cell? p := h.keep.cell hp hn
theorem flatMap_take {N : List Nat} {k : Nat} (hk : k < N.length) : (N.take (k + 1)).flatMap putN = (N.take k).flatMap putN ++ putN (N.getD k 0) := by
  rw [List.take_succ_eq_append_getElem hk, List.flatMap_append]
  simp [List.getD, hk]
theorem flatMap_len {N : List Nat} (h : ∀ x ∈ N, x < 2097152) : (N.flatMap putN).length ≤ 3 * N.length := by
  induction N with
  | nil => simp
  | cons x N ih =>
    have h1 := putN_len3 (h x (by simp))
    have h2 := ih (fun y hy => h y (by simp [hy]))
    simp only [List.flatMap_cons, List.length_append, List.length_cons]
    omega

set_option maxRecDepth 100000 in
set_option maxHeartbeats 2000000 in
theorem withNumbers_any (v : Value) (L : List Nat) (N : List Nat) (gn cn B : Nat) (w : World) (h : OB w B v L) (hB : B ≤ w.heap.size) (hn : ∀ x ∈ N, x < 2097152) (hN : N.length ≤ 3) (hL : L.length ≤ 100000)
    (hg : gn < w.heap.size) (hv : v.ownBlock ≠ some gn) (hc : ∀ j, j < N.length → w.cell? ⟨gn, j, none⟩ = some (.int .i64 (N.getD j 0 : Nat))) :
    Calls Tryd.prog 50 #[v, .slice (some ⟨gn, 0, none⟩) N.length cn] w (GivesB B (L ++ N.flatMap putN) w) := by
  have H := Lib.hid h
  have HB := Lib.hid hB
  have HC := Lib.hid hc
  have HV := Lib.hid hv
  have HNN := Lib.hid hn
  clear h hB hc hv hn
  obtain ⟨i0, hi, hz0, hz1, hz2⟩ := info_parts info_u8
  have HI := Lib.hid hi
  have HZ0 := Lib.hid hz0
  have HZ1 := Lib.hid hz1
  have HZ2 := Lib.hid hz2
  clear hi hz0 hz1 hz2
  generalize hq : N.length = q at *
  have HQ := Lib.hid hq
  clear hq
  go_enter Tryd.func50, Tryd.ntmps50
  go_wp2
  go_loopw [0, 9] (fun s0 s9 wr => ∃ k : Nat, k ≤ q ∧ s9 = .int .i64 k ∧ OB wr B s0 (L ++ (N.take k).flatMap putN) ∧ Below B w wr ∧ Moved w wr v s0) (fun _ s9 _ => q - (intOf s9).toNat)
  case atStart => exact ⟨0, Nat.zero_le _, rfl, by simpa using H.out, Below.refl _ _, Moved.refl _ _⟩
  case round =>
    obtain ⟨k, hk, rfl, O, K, M⟩ := hrel
    have HO := Lib.hid O
    have HM := Lib.hid M
    have HK := Lib.hid K
    clear O M K
    by_cases hlt : k < q
    · have q0 := (HM.out.cell (p := ⟨gn, k, none⟩) hg HV.out).trans (HC.out k hlt)
      have hx := HNN.out (N.getD k 0) (by rw [List.getD_eq_getElem?_getD, List.getElem?_eq_getElem (by rw [HQ.out]; exact hlt)]; exact List.getElem_mem _)
      have HT := Lib.hid (flatMap_take (N := N) (k := k) (by rw [HQ.out]; exact hlt))
      have hlq : ((N.take k).flatMap putN).length ≤ 9 := by
        have := flatMap_len (N := N.take k) (fun x hx => HNN.out x (List.mem_of_mem_take hx))
        rw [List.length_take] at this
        omega
      generalize hy : N.getD k 0 = n at *
      generalize hF : (N.take k).flatMap putN = F at *
      have HF := Lib.hid hF
      clear hy hF
      have hp := putN_len3 hx
      go_wp2
      go_loopw [0, 6] (fun s0 s6 wr2 => ∃ (m : Nat) (P : List Nat), s6 = .int .i64 m ∧ m < 2097152 ∧ P ++ putN m = putN n ∧ OB wr2 B s0 (L ++ F ++ P) ∧ Below B w wr2 ∧ Moved w wr2 v s0) (fun _ s6 _ => (intOf s6).toNat)
      case atStart => exact ⟨n, [], rfl, hx, rfl, by rw [List.append_nil]; exact HO.out, HK.out, HM.out⟩
      case round =>
        clear HO HM HK q0
        obtain ⟨m, P, rfl, hm, hP, O, K, M⟩ := hrel
        have hlen : P.length + (putN m).length ≤ 3 := by rw [← List.length_append, hP]; exact hp
        have hpos := putN_pos m
        have hlen2 : (L ++ F ++ P).length + 1 ≤ 100020 := by rw [List.length_append, List.length_append]; omega
        generalize hQQ : L ++ F ++ P = Q at *
        have HQQ := Lib.hid hQQ
        clear hQQ
        have h63 : Hid (Q.length + 1 ≤ maxLen) := Lib.hid (by unfold maxLen; omega)
        have hby : Hid ((Q.length + 1) * 1 ≤ 140737488355328) := Lib.hid (by omega)
        have HP := Lib.hid hP
        have HO := Lib.hid O
        have HM := Lib.hid M
        have hsz := K.size
        have hbw : B ≤ wr.heap.size := Nat.le_trans HB.out hsz
        have HK := Lib.hid K
        clear hlen hlen2 hP O hpos M K
        by_cases h128 : 128 ≤ m
        · have HB2 := Lib.hid (putN_big (n := m) (by omega))
          go_wp2_with ((at_builtin; refine wpList_append_lies _ rfl _ _ 22 rfl B 5 i0 (.int .u8 0) 1 1 Tryd.underlying22 HI.out HZ0.out HZ1.out HZ2.out rfl (by decide) _ _ _ rfl (ownsRow_below HO.out.own ((Below.refl _ _).alloc (Nat.le_refl _) _)) ⟨wr.heap.size, 0, none⟩ 1 1 [.int .u8 ((m : Int) % 128 + 128)] rfl rfl (cell_one_new _ _ _) (fun x hx => by simp at hx; subst hx; rfl) (by omega) h63.out hby.out (by simp; omega) _ rfl ?_; intro g' c' w4 hown' hgrow hlies hgl))
          refine ⟨⟨m / 128, P ++ [m % 128 + 128], by go_num, by omega, ?_, ?_, ?_, ?_⟩, by simp [intOf]; omega⟩
          · rw [List.append_assoc, ← HP.out, HB2.out]; rfl
          · rw [← List.append_assoc, HQQ.out]
            exact OB.push (m % 128 + 128) HO.out (by omega) hown'
          · exact (HK.out.alloc hbw _).grown hgrow (by simp; omega) fun r hr => (HO.out.lt hr).1
          · exact (HM.out.alloc _).grown hgrow hlies
        · have HB2 := Lib.hid (putN_small (n := m) (by omega))
          have hm2 : m < 128 := by omega
          go_wp2_with ((at_builtin; refine wpList_append_lies _ rfl _ _ 22 rfl B 5 i0 (.int .u8 0) 1 1 Tryd.underlying22 HI.out HZ0.out HZ1.out HZ2.out rfl (by decide) _ _ _ rfl (ownsRow_below HO.out.own ((Below.refl _ _).alloc (Nat.le_refl _) _)) ⟨wr.heap.size, 0, none⟩ 1 1 [.int .u8 (m : Int)] rfl rfl (cell_one_new _ _ _) (fun x hx => by simp at hx; subst hx; rfl) (by omega) h63.out hby.out (by simp; omega) _ rfl ?_; intro g' c' w4 hown' hgrow hlies hgl))
          refine ⟨⟨k + 1, by omega, by go_num, ?_, ?_, ?_⟩, by simp [intOf]; omega⟩
          · rw [HT.out, ← HP.out, HB2.out, ← List.append_assoc, ← List.append_assoc, HQQ.out]
            exact OB.push m HO.out (by omega) hown'
          · exact (HK.out.alloc hbw _).grown hgrow (by simp; omega) fun r hr => (HO.out.lt hr).1
          · exact (HM.out.alloc _).grown hgrow hlies
    · obtain rfl : k = q := by omega
      go_wp2
      go_ret
      refine ⟨_, rfl, ?_, HK.out⟩
      have := HO.out
      rwa [List.take_of_length_le (by rw [HQ.out]; exact Nat.le_refl _)] at this
end Go.Proofs.YtcpmkbemkhacnaaDoor
