/-
  The model's draws of lists of records, of bytes.
-/
import Derived.Test.YtcpmkbemkhacnaaDoorDb
import Derived.Test.YtcpmkbemkhacnaaDoorBgS
import Derived.Deep.DeepCutAuto
set_option linter.unusedVariables false
namespace Go.Proofs.YtcpmkbemkhacnaaDoor
open Go.RowKit

theorem Keeps.grown {S : Nat → Prop} {w w1 w2 : World} (h : Keeps S w w1) {row : Option Nat} (hg : w1.grownBy w2 row) (hr : ∀ r, row = some r → w.heap.size ≤ r) : Keeps S w w2 :=
  ⟨hg.os.trans h.os, hg.tape.trans h.tape, hg.output.trans h.output, Nat.le_trans h.size hg.size, fun b hb hn => (hg.block b (Nat.lt_of_lt_of_le hb h.size) (fun e => by have := hr b e.symm; omega)).trans (h.block b hb hn)⟩
theorem Cur.grown {T : TypeId} {k : IntKind} {w w' : World} {g : Nat} (h : Cur T k w g) {row : Option Nat} (hg : w.grownBy w' row) (hr : ∀ r, row = some r → g < r) : Cur T k w' g :=
  h.keeps (S := fun b => row = some b) ⟨hg.os, hg.tape, hg.output, hg.size, fun b hb hn => hg.block b hb (fun e => hn e.symm)⟩ (fun b hb e => by have := hr b e; omega)
theorem OR.keep {S : Nat → Prop} {w w' : World} {B : Nat} {v : Value} {l : List RecD} (h : OR w B v l) (hk : Keeps S w w') (hS : ∀ r, B ≤ r → ¬ S r) : OR w' B v l := by
  obtain ⟨hl, ho⟩ := h
  refine ⟨hl, ho.imp id ?_⟩
  rintro ⟨g, cap, cur, hv, hb', hh, rest⟩
  exact ⟨g, cap, cur, hv, hb', (hk.block g (Array.getElem?_eq_some_iff.1 hh).1 (hS g hb')).trans hh, rest⟩

/-- Behind a draw of a list of at most four records. -/
def DrawnRecs (g : Nat) (w : World) (e : Ending) (w' : World) : Prop :=
  ∃ v l, e = .returned v ∧ l.length ≤ 4 ∧ OR w' w.heap.size v l ∧ Cur 79 .i64 w' g ∧ Keeps (· = g) w w'

set_option maxRecDepth 100000 in
set_option maxHeartbeats 4000000 in
theorem l3DrawList_any (g : Nat) (w : World) (h : Cur 79 .i64 w g) : Calls Tryd.prog 42 #[.pointer (some ⟨g, 0, none⟩)] w (DrawnRecs g w) := by
  have hl := h.lt
  obtain ⟨i0, hi, hz0, hz1, hz2⟩ := info_parts info_rec
  have HI := Lib.hid hi
  have HZ0 := Lib.hid hz0
  have HZ1 := Lib.hid hz1
  have HZ2 := Lib.hid hz2
  clear hi hz0 hz1 hz2
  have hc0 := h.alloc (.cells #[] 30)
  have hK0 : Keeps (· = g) w (w.alloc (.cells #[] 30)) := (Keeps.refl _ _).alloc _
  have O0 : OR (w.alloc (.cells #[] 30)) w.heap.size (.slice (some ⟨w.heap.size, 0, none⟩) 0 0) [] := OR.empty (Nat.le_refl _)
  clear h
  go_enter Tryd.func42, Tryd.ntmps42
  go_wp2_with fail
  refine (l1Below_any g 5 _ hc0 (by omega) (by omega)).mono ?_
  rintro e w1 ⟨n, rfl, n0, n1, hc1, hk1⟩
  have K1 := hK0.trans hk1
  have O1 := O0.keep hk1 (by rintro r hr rfl; omega)
  obtain ⟨n, rfl⟩ := Int.eq_ofNat_of_zero_le n0
  clear hc0 hK0 O0 hk1 n0
  go_wp2_with fail
  go_loopw [3, 4] (fun s3 s4 wr => ∃ (k : Nat) (l : List RecD), s4 = .int .i64 k ∧ k + l.length ≤ 4 ∧ OR wr w.heap.size s3 l ∧ Cur 79 .i64 wr g ∧ Keeps (· = g) w wr) (fun _ s4 _ => (intOf s4).toNat)
  case atStart => exact ⟨n, [], rfl, by simp; omega, O1, hc1, K1⟩
  case round =>
    clear O1 hc1 K1
    obtain ⟨k, l, rfl, hkl, O, hc, K⟩ := hrel
    by_cases hpos : 0 < k
    · go_wp2_with fail
      refine (l3Draw_any g _ hc).mono ?_
      rintro e w3 ⟨⟨rk, ra, rb⟩, rfl, hc3, hk3⟩
      have HK3 := Lib.hid (K.trans hk3)
      have HO3 := Lib.hid (O.keep hk3 (by rintro r hr rfl; omega))
      have HC3 := Lib.hid hc3
      have hs3 := HK3.out.size
      have h63 : Hid (l.length + 1 ≤ maxLen) := Lib.hid (by unfold maxLen; omega)
      have hby : Hid ((l.length + 1) * 24 ≤ 140737488355328) := Lib.hid (by omega)
      unfold recV
      dsimp only
      clear hc K O hc3 hk3
      go_wp2_with ((at_builtin; refine wpList_append_own _ rfl _ _ 31 rfl w.heap.size 30 i0 (.agg #[.int .i64 0, .int .i64 0, .int .i64 0]) 3 24 Tryd.underlying31 HI.out HZ0.out HZ1.out HZ2.out rfl (by decide) _ _ _ rfl (ownsRow_below HO3.out ((Below.refl _ _).alloc (Nat.le_refl _) _)) ⟨w3.heap.size, 0, none⟩ 1 1 [.int .i64 rk, .int .i64 ra, .int .i64 rb] rfl rfl (World.news_of_block (cs := #[.int .i64 rk, .int .i64 ra, .int .i64 rb]) (heap_alloc_new w3 _)) (by simp [Value.oneCell']) h63.out hby.out (by simp; omega) ?_; intro v' w6 hown' hgrow hnil))
      refine ⟨⟨k - 1, l ++ [⟨rk, ra, rb⟩], int_eq (by omega), by simp; omega, OR.push ⟨rk, ra, rb⟩ hown', (HC3.out.alloc _).grown hgrow (fun r hr => by have := (HO3.out.lt hr).1; omega), (HK3.out.alloc _).grown hgrow (fun r hr => (HO3.out.lt hr).1)⟩, by simp [intOf]; omega⟩
    · obtain rfl : k = 0 := by omega
      go_wp2
      go_ret
      exact ⟨_, l, rfl, by omega, O, hc, K⟩

def lenOf : Value → Nat
  | .slice _ n _ => n
  | _ => 0
/-- A list of records of the call's own. -/
def GivesR (w : World) (e : Ending) (w' : World) : Prop := ∃ v l, e = .returned v ∧ l.length ≤ 100 ∧ OR w' w.heap.size v l ∧ Below w.heap.size w w'

end Go.Proofs.YtcpmkbemkhacnaaDoor
