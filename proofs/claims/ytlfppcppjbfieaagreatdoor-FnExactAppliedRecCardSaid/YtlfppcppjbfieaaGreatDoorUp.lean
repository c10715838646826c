/-
  The model's l6Without and l6With.
-/
import Derived.Test.YtlfppcppjbfieaaGreatDoorUn
import Derived.Test.YtlfppcppjbfieaaGreatDoorA3
set_option linter.unusedVariables false
namespace Go.Proofs.YtlfppcppjbfieaaGreatDoor
open Go.RowKit

/-- A row of whole numbers of the call's own. -/
def LkR (w : World) (B : Nat) (v : Value) (l : List Int) : Prop := w.ownsRow B 2 1 v l.length (lkCs l)
theorem LkR.push {w' : World} {B : Nat} {v' : Value} {l : List Int} (a : Int) (h' : w'.ownsRow B 2 1 v' (l.length + 1) (lkCs l ++ [.int .i64 a])) : LkR w' B v' (l ++ [a]) := by
  unfold LkR
  rw [List.length_append]
  have : lkCs (l ++ [a]) = lkCs l ++ [.int .i64 a] := by simp [lkCs]
  rw [this]
  exact h'
theorem LkR.lt {w : World} {B : Nat} {v : Value} {l : List Int} (h : LkR w B v l) {r : Nat} (hr : v.ownBlock = some r) : B ≤ r ∧ r < w.heap.size := World.ownsRow.lt h r hr
theorem LkR.empty (w : World) (B : Nat) (hB : B ≤ w.heap.size) : LkR (w.alloc (.cells #[] 2)) B (.slice (some ⟨w.heap.size, 0, none⟩) 0 0) [] := made_empty w B _ _ hB

theorem lk_at {w : World} {B n : Nat} {A : Option Addr} {l : List Int} (h : SlV w B 1 A n (lkCs l)) (hn : l.length = n) {k : Nat} (hk : k < n) : ∃ b off, A = some ⟨b, off, none⟩ ∧ b < B ∧ w.cell? ⟨b, off + k, none⟩ = some (.int .i64 (lkA l k)) := by
  obtain ⟨b, off, e, hb, hc⟩ := h.cell hk
  have := hc 0 (by decide)
  rw [Nat.mul_one, Nat.add_zero] at this
  exact ⟨b, off, e, hb, this.trans (lkCs_at l (by omega))⟩
theorem take_snoc (l : List Int) {k : Nat} (hk : k < l.length) : l.take (k + 1) = l.take k ++ [lkA l k] := by
  rw [List.take_add_one, List.getElem?_eq_getElem hk]
  have : lkA l k = l[k] := by simp [lkA, List.getD, List.getElem?_eq_getElem hk]
  rw [this]
  rfl
theorem without_len (l : List Int) (x : Int) : (withoutN l x).length ≤ l.length := List.length_filter_le _ _

set_option maxRecDepth 4000 in
set_option maxHeartbeats 2000000 in
theorem l6Without_any (A : Option Addr) (n c : Nat) (l : List Int) (x : Int) (w : World) (h : SlV w w.heap.size 1 A n (lkCs l)) (hl : l.length = n) (hn : n ≤ 1048576) :
    Calls Tryz.prog 73 #[.slice A n c, .int .i64 x] w fun e w' => ∃ v, e = .returned v ∧ LkR w' w.heap.size v (withoutN l x) ∧ Below w.heap.size w w' := by
  have H := Lib.hid h
  have HL := Lib.hid hl
  clear h hl
  obtain ⟨i1, hi, hz0, hz1, hz2⟩ := info_parts infoS_i64
  have GI := Lib.hid hi
  have GZ0 := Lib.hid hz0
  have GZ1 := Lib.hid hz1
  have GZ2 := Lib.hid hz2
  clear hi hz0 hz1 hz2
  have hn' : n ≤ 2 ^ 63 - 1 := by omega
  have HOA := Lib.hid (LkR.empty w w.heap.size (Nat.le_refl _))
  have HKA := Lib.hid ((Below.refl w.heap.size w).alloc (Nat.le_refl _) (.cells #[] 2))
  go_enter Tryz.func73, Tryz.ntmps73
  go_wp2_with fail
  go_loopw [5, 6] (fun s5 i wr => ∃ (k : Nat) (m : List Int), k ≤ n ∧ i = .int .i64 k ∧ m = withoutN (l.take k) x ∧ LkR wr w.heap.size s5 m ∧ Below w.heap.size w wr) (fun _ i _ => n - (intOf i).toNat)
  case atStart => exact ⟨0, [], Nat.zero_le _, rfl, rfl, HOA.out, HKA.out⟩
  case round =>
    clear HOA HKA
    obtain ⟨k, m, hk, rfl, hm, O, K⟩ := hrel
    have HM := Lib.hid hm
    have HO := Lib.hid O
    have HK := Lib.hid K
    clear hm O K
    by_cases hlt : k < n
    · obtain ⟨b, off, rfl, hb, q⟩ := lk_at ((H.out.below HK.out (Nat.le_refl _)).more HK.out.size) HL.out hlt
      have hts := take_snoc l (k := k) (by rw [HL.out]; exact hlt)
      have HT := Lib.hid hts
      clear hts
      generalize lkA l k = y at *
      have hs2 := HK.out.size
      have hml : m.length ≤ 1048576 := by
        rw [HM.out]
        refine Nat.le_trans (without_len _ _) ?_
        rw [List.length_take]
        omega
      have h63 : Hid (m.length + 1 ≤ maxLen) := Lib.hid (by unfold maxLen; omega)
      have hby : Hid ((m.length + 1) * 8 ≤ 140737488355328) := Lib.hid (by omega)
      clear hml
      by_cases hyx : y = x
      · subst hyx
        go_wp2
        exact ⟨⟨k + 1, m, by omega, by go_num, by rw [HM.out, HT.out]; simp [withoutN, List.filter_append], HO.out, HK.out⟩, by simp [intOf]; omega⟩
      · go_wp2_with ((at_builtin; refine wpList_append_own _ rfl _ _ 23 rfl _ 2 i1 (.int .i64 0) 1 8 Tryz.underlying23 GI.out GZ0.out GZ1.out GZ2.out rfl (by decide) _ _ _ rfl (ownsRow_below HO.out ((Below.refl _ _).alloc (Nat.le_refl _) _)) ⟨wr.heap.size, 0, none⟩ 1 1 [.int .i64 y] rfl rfl (cell_one_new _ _ _) (fun x hx => by simp at hx; subst hx; rfl) h63.out hby.out (by simp; omega) ?_; intro v' w4 hown' hgrow hnil))
        exact ⟨⟨k + 1, m ++ [y], by omega, by go_num, by rw [HM.out, HT.out]; simp [withoutN, List.filter_append, hyx], LkR.push _ hown', (HK.out.alloc hs2 _).grown hgrow (by simp; omega) fun r hr => (HO.out.lt hr).1⟩, by simp [intOf]; omega⟩
    · obtain rfl : k = n := by omega
      go_wp2
      go_ret
      exact ⟨_, rfl, by rw [← List.take_of_length_le (Nat.le_of_eq HL.out), ← HM.out]; exact HO.out, HK.out⟩
end Go.Proofs.YtlfppcppjbfieaaGreatDoor
