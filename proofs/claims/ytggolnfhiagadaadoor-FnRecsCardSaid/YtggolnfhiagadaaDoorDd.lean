/-
  The model's draws of lists of records, of bytes.
-/
import Derived.Test.YtggolnfhiagadaaDoorDb
import Derived.Test.YtggolnfhiagadaaDoorBgS
import Derived.Deep.DeepCutAuto
set_option linter.unusedVariables false
namespace Go.Proofs.YtggolnfhiagadaaDoor
open Go.RowKit

theorem Keeps.grown {S : Nat → Prop} {w w1 w2 : World} (h : Keeps S w w1) {row : Option Nat} (hg : w1.grownBy w2 row) (hr : ∀ r, row = some r → w.heap.size ≤ r) : Keeps S w w2 :=
  ⟨hg.os.trans h.os, hg.tape.trans h.tape, hg.output.trans h.output, Nat.le_trans h.size hg.size, fun b hb hn => (hg.block b (Nat.lt_of_lt_of_le hb h.size) (fun e => by have := hr b e.symm; omega)).trans (h.block b hb hn)⟩
theorem Cur.grown {T : TypeId} {k : IntKind} {w w' : World} {g : Nat} (h : Cur T k w g) {row : Option Nat} (hg : w.grownBy w' row) (hr : ∀ r, row = some r → g < r) : Cur T k w' g :=
  h.keeps (S := fun b => row = some b) ⟨hg.os, hg.tape, hg.output, hg.size, fun b hb hn => hg.block b hb (fun e => hn e.symm)⟩ (fun b hb e => by have := hr b e; omega)
theorem OR.keep {S : Nat → Prop} {w w' : World} {B : Nat} {v : Value} {l : List RecD} (h : OR w B v l) (hk : Keeps S w w') (hS : ∀ r, B ≤ r → ¬ S r) : OR w' B v l := by
  obtain ⟨hl, ho⟩ := h
  refine ⟨hl, ho.imp id ?_⟩
  rintro ⟨g, cap, cur, hv, hb', hh, rest⟩
  exact ⟨g, cap, cur, hv, hb', (hk.block g (Array.getElem?_eq_some_iff.1 hh).1 (hS g hb')).trans hh, rest⟩

/-- Behind a draw of a list of at most four records. -/
def DrawnRecs (g : Nat) (w : World) (e : Ending) (w' : World) : Prop :=
  ∃ v l, e = .returned v ∧ l.length ≤ 4 ∧ OR w' w.heap.size v l ∧ Cur 69 .i64 w' g ∧ Keeps (· = g) w w'

set_option maxRecDepth 100000 in
set_option maxHeartbeats 4000000 in
theorem l3DrawList_any (g : Nat) (w : World) (h : Cur 69 .i64 w g) : Calls Tryd.prog 29 #[.pointer (some ⟨g, 0, none⟩)] w (DrawnRecs g w) := by
  have hl := h.lt
  obtain ⟨i0, hi, hz0, hz1, hz2⟩ := info_parts info_rec
  have HI := Lib.hid hi
  have HZ0 := Lib.hid hz0
  have HZ1 := Lib.hid hz1
  have HZ2 := Lib.hid hz2
  clear hi hz0 hz1 hz2
  have hc0 := h.alloc (.cells #[] 33)
  have hK0 : Keeps (· = g) w (w.alloc (.cells #[] 33)) := (Keeps.refl _ _).alloc _
  have O0 : OR (w.alloc (.cells #[] 33)) w.heap.size (.slice (some ⟨w.heap.size, 0, none⟩) 0 0) [] := OR.empty (Nat.le_refl _)
  clear h
  go_enter Tryd.func29, Tryd.ntmps29
  go_wp2_with fail
  refine (l1Below_any g 5 _ hc0 (by omega) (by omega)).mono ?_
  rintro e w1 ⟨n, rfl, n0, n1, hc1, hk1⟩
  have K1 := hK0.trans hk1
  have O1 := O0.keep hk1 (by rintro r hr rfl; omega)
  obtain ⟨n, rfl⟩ := Int.eq_ofNat_of_zero_le n0
  clear hc0 hK0 O0 hk1 n0
  go_wp2_with fail
  go_loopw [3, 4] (fun s3 s4 wr => ∃ (k : Nat) (l : List RecD), s4 = .int .i64 k ∧ k + l.length ≤ 4 ∧ OR wr w.heap.size s3 l ∧ Cur 69 .i64 wr g ∧ Keeps (· = g) w wr) (fun _ s4 _ => (intOf s4).toNat)
  case atStart => exact ⟨n, [], rfl, by simp; omega, O1, hc1, K1⟩
  case round =>
    clear O1 hc1 K1
    obtain ⟨k, l, rfl, hkl, O, hc, K⟩ := hrel
    by_cases hpos : 0 < k
    · go_wp2_with fail
      refine (l3Draw_any g _ hc).mono ?_
      rintro e w3 ⟨⟨rk, ra, rb⟩, rfl, hc3, hk3⟩
      have HK3 := Lib.hid (K.trans hk3)
      have HO3 := Lib.hid (O.keep hk3 (by rintro r hr rfl; omega))
      have HC3 := Lib.hid hc3
      have hs3 := HK3.out.size
      have h63 : Hid (l.length + 1 ≤ maxLen) := Lib.hid (by unfold maxLen; omega)
      have hby : Hid ((l.length + 1) * 24 ≤ 140737488355328) := Lib.hid (by omega)
      unfold recV
      dsimp only
      clear hc K O hc3 hk3
      go_wp2_with ((at_builtin; refine wpList_append_own _ rfl _ _ 24 rfl w.heap.size 33 i0 (.agg #[.int .i64 0, .int .i64 0, .int .i64 0]) 3 24 Tryd.underlying24 HI.out HZ0.out HZ1.out HZ2.out rfl (by decide) _ _ _ rfl (ownsRow_below HO3.out ((Below.refl _ _).alloc (Nat.le_refl _) _)) ⟨w3.heap.size, 0, none⟩ 1 1 [.int .i64 rk, .int .i64 ra, .int .i64 rb] rfl rfl (World.news_of_block (cs := #[.int .i64 rk, .int .i64 ra, .int .i64 rb]) (heap_alloc_new w3 _)) (by simp [Value.oneCell']) h63.out hby.out (by simp; omega) ?_; intro v' w6 hown' hgrow hnil))
      refine ⟨⟨k - 1, l ++ [⟨rk, ra, rb⟩], int_eq (by omega), by simp; omega, OR.push ⟨rk, ra, rb⟩ hown', (HC3.out.alloc _).grown hgrow (fun r hr => by have := (HO3.out.lt hr).1; omega), (HK3.out.alloc _).grown hgrow (fun r hr => (HO3.out.lt hr).1)⟩, by simp [intOf]; omega⟩
    · obtain rfl : k = 0 := by omega
      go_wp2
      go_ret
      exact ⟨_, l, rfl, by omega, O, hc, K⟩

def lenOf : Value → Nat
  | .slice _ n _ => n
  | _ => 0
/-- A list of records of the call's own. -/
def GivesR (w : World) (e : Ending) (w' : World) : Prop := ∃ v l, e = .returned v ∧ l.length ≤ 100 ∧ OR w' w.heap.size v l ∧ Below w.heap.size w w'

set_option maxRecDepth 100000 in
set_option maxHeartbeats 4000000 in
theorem drawRecBytes_any (A : Option Addr) (n c : Nat) (w : World) (hB : Bytes w w.heap.size A n) (hn : n ≤ 4096) :
    Calls Tryd.prog 8 #[.slice A n c] w (GivesR w) := by
  obtain ⟨i0, hi, hz0, hz1, hz2⟩ := info_parts info_rec
  have HI := Lib.hid hi
  have HZ0 := Lib.hid hz0
  have HZ1 := Lib.hid hz1
  have HZ2 := Lib.hid hz2
  clear hi hz0 hz1 hz2
  have HB := Lib.hid hB
  clear hB
  go_enter Tryd.func8, Tryd.ntmps8
  go_wp2_with fail
  refine (l1New_any A n c w HB.out hn).mono ?_
  rintro e w1 ⟨g, rfl, hg, hc1, K1⟩
  have hg1 := hc1.lt
  go_wp2_with fail
  refine (l3DrawList_any g w1 hc1).mono ?_
  rintro e w2 ⟨v2, l2, rfl, hl2, O2, hc2, hk2⟩
  have K2 := K1.trans (hk2.below (B := w.heap.size) K1.size (by rintro b hb rfl; omega))
  have hB1 : w.heap.size ≤ w1.heap.size := K1.size
  have hs2 : w1.heap.size ≤ w2.heap.size := hk2.size
  clear hc1 K1
  generalize w1.heap.size = β at *
  clear hk2
  go_wp2_with fail
  go_upto_if 10 with (go_at_call 30; refine (l1Once_any g 6 _ hc2 (by omega) (by omega)).mono ?_; rintro e w3 ⟨b, rfl, hc3, hk3⟩)
  have K3 := K2.trans (hk3.below (B := w.heap.size) K2.size (by rintro b hb rfl; omega))
  have O3 := O2.keep hk3 (by rintro r hr rfl; omega)
  have hs3 : β ≤ w3.heap.size := Nat.le_trans hs2 hk3.size
  clear hc2 K2 O2 hk3
  go_cut [4] from 11 to 15 (fun s4 wx => ∃ l : List RecD, l.length ≤ 5 ∧ OR wx β s4 l ∧ Cur 69 .i64 wx g ∧ Below w.heap.size w wx ∧ β ≤ wx.heap.size)
  case first =>
    cases b
    · go_wp2_with fail
      go_meet
      exact ⟨l2, by omega, O3, hc3, K3, hs3⟩
    · go_wp2_with fail
      refine (l3DrawAny_any g _ hc3).mono ?_
      rintro e w4 ⟨⟨rk, ra, rb⟩, rfl, hc4, hk4⟩
      have HK4 := Lib.hid (K3.trans (hk4.below (B := w.heap.size) K3.size (by rintro b hb rfl; omega)))
      have HO4 := Lib.hid (O3.keep hk4 (by rintro r hr rfl; omega))
      have HC4 := Lib.hid hc4
      have hs4 : β ≤ w4.heap.size := Nat.le_trans hs3 hk4.size
      have h63 : Hid (l2.length + 1 ≤ maxLen) := Lib.hid (by unfold maxLen; omega)
      have hby : Hid ((l2.length + 1) * 24 ≤ 140737488355328) := Lib.hid (by omega)
      unfold recV
      dsimp only
      clear hc3 K3 O3 hc4 hk4
      go_wp2_with ((at_builtin; refine wpList_append_own _ rfl _ _ 24 rfl β 33 i0 (.agg #[.int .i64 0, .int .i64 0, .int .i64 0]) 3 24 Tryd.underlying24 HI.out HZ0.out HZ1.out HZ2.out rfl (by decide) _ _ _ rfl (ownsRow_below HO4.out ((Below.refl _ _).alloc (Nat.le_refl _) _)) ⟨w4.heap.size, 0, none⟩ 1 1 [.int .i64 rk, .int .i64 ra, .int .i64 rb] rfl rfl (World.news_of_block (cs := #[.int .i64 rk, .int .i64 ra, .int .i64 rb]) (heap_alloc_new w4 _)) (by simp [Value.oneCell']) h63.out hby.out (by simp; omega) ?_; intro v' w6 hown' hgrow hnil))
      go_meet
      refine ⟨l2 ++ [⟨rk, ra, rb⟩], by simp; omega, OR.push ⟨rk, ra, rb⟩ hown', (HC4.out.alloc _).grown hgrow (fun r hr => by have := (HO4.out.lt hr).1; omega), ((HK4.out.alloc HK4.out.size _).grown hgrow (by have := HK4.out.size; simp; omega) (fun r hr => Nat.le_trans hB1 (HO4.out.lt hr).1)), ?_⟩
      have := hgrow.size
      simp at this
      omega
  case rest =>
    obtain ⟨l4, hl4, O4, hc4, K4, hs4⟩ := hcut
    clear O3 hc3 K3
    go_wp2_with fail
    refine (l1Once_any g 20 _ hc4 (by omega) (by omega)).mono ?_
    rintro e w5 ⟨b, rfl, hc5, hk5⟩
    have K5 := K4.trans (hk5.below (B := w.heap.size) K4.size (by rintro b hb rfl; omega))
    have O5 := O4.keep hk5 (by rintro r hr rfl; omega)
    have hs5 := Nat.le_trans hs4 hk5.size
    clear hc4 K4 O4 hk5 hs4
    cases b
    · go_wp2_with fail
      go_ret
      exact ⟨_, l4, rfl, by omega, O5.base hB1, K5⟩
    · go_wp2_with fail
      clear O5
      have O6 : OR (w5.alloc (.cells #[] 33)) β (.slice (some ⟨w5.heap.size, 0, none⟩) 0 0) [] := OR.empty hs5
      have K6 := K5.alloc K5.size (.cells #[] 33)
      have hc6 := hc5.alloc (.cells #[] 33)
      have hs6 : β ≤ (w5.alloc (.cells #[] 33)).heap.size := by simp; omega
      go_loopw [4] (fun s4 wr => ∃ (l : List RecD) (A4 : Option Addr) (c4 : Nat), s4 = .slice A4 l.length c4 ∧ l.length ≤ 81 ∧ OR wr β s4 l ∧ Cur 69 .i64 wr g ∧ Below w.heap.size w wr ∧ β ≤ wr.heap.size) (fun s4 _ => 81 - lenOf s4)
      case atStart => exact ⟨[], _, _, rfl, by simp, O6, hc6, K6, hs6⟩
      case round =>
        clear O6 hc6 K6 hs6 K5 hc5 hs5
        obtain ⟨l, A4, c4, rfl, hl, O, hc, K, hs⟩ := hrel
        have HO := Lib.hid O
        clear O
        generalize hq : l.length = q at *
        have HQ := Lib.hid hq
        clear hq
        go_wp2_with fail
        refine (l1Below_any g 2 _ hc (by omega) (by omega)).mono ?_
        rintro e w7 ⟨x, rfl, x0, x1, hc7, hk7⟩
        have HK7 := Lib.hid (K.trans (hk7.below (B := w.heap.size) K.size (by rintro b hb rfl; omega)))
        have HO7 := Lib.hid (HO.out.keep hk7 (by rintro r hr rfl; omega))
        have HC7 := Lib.hid hc7
        have hs7 := Nat.le_trans hs hk7.size
        clear hc K HO hc7 hk7 hs
        by_cases hlt : (q : Int) < 80 + x
        · have h63 : Hid (l.length + 1 ≤ maxLen) := Lib.hid (by rw [HQ.out]; unfold maxLen; omega)
          have hby : Hid ((l.length + 1) * 24 ≤ 140737488355328) := Lib.hid (by rw [HQ.out]; omega)
          have HO8 : Hid (w7.ownsRow β 33 3 (.slice A4 q c4) l.length (recVs l)) := Lib.hid HO7.out
          go_wp2_with ((at_builtin; refine wpList_append_own _ rfl _ _ 24 rfl β 33 i0 (.agg #[.int .i64 0, .int .i64 0, .int .i64 0]) 3 24 Tryd.underlying24 HI.out HZ0.out HZ1.out HZ2.out rfl (by decide) _ _ _ rfl (ownsRow_below HO8.out ((Below.refl _ _).alloc (Nat.le_refl _) _)) ⟨w7.heap.size, 0, none⟩ 1 1 [.int .i64 1, .int .i64 0, .int .i64 0] rfl rfl (World.news_of_block (cs := #[.int .i64 1, .int .i64 0, .int .i64 0]) (heap_alloc_new w7 _)) (by simp [Value.oneCell']) h63.out hby.out (by simp; omega) ?_; intro v' w9 hown' hgrow hnil))
          have hO9 := OR.push ⟨1, 0, 0⟩ hown'
          have hsz := hgrow.size
          simp at hsz
          obtain ⟨A9, c9, g9, rfl, -⟩ := hO9.open_
          refine ⟨⟨l ++ [⟨1, 0, 0⟩], A9, c9, rfl, by rw [List.length_append, HQ.out]; simp; omega, hO9, (HC7.out.alloc _).grown hgrow (fun r hr => by have := (HO7.out.lt hr).1; omega), ((HK7.out.alloc HK7.out.size _).grown hgrow (by have := HK7.out.size; simp; omega) (fun r hr => Nat.le_trans hB1 (HO7.out.lt hr).1)), by omega⟩, ?_⟩
          simp [lenOf, HQ.out]
          omega
        · go_wp2_with fail
          go_ret
          exact ⟨_, l, rfl, by rw [HQ.out]; omega, HO7.out.base hB1, HK7.out⟩
end Go.Proofs.YtggolnfhiagadaaDoor
