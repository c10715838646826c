/-
  The model's draws of records.
-/
import Derived.Test.YtcpmkbemkhacnaaDoorA5
import Derived.Test.YtcpmkbemkhacnaaDoorBa
import Derived.Deep.RegionLaw
set_option linter.unusedVariables false
namespace Go.Proofs.YtcpmkbemkhacnaaDoor
open Go.RowKit

/-- Block g holds just cs, all writable. -/
structure Blk (w : World) (g : Nat) (cs : Array Value) : Prop where
  z : g < w.heap.size
  C : ∀ o, w.cell? ⟨g, o, none⟩ = cs[o]?
  F : ∀ o, w.frozen? ⟨g, o, none⟩ = false
theorem Blk.new (w : World) (cs : Array Value) (t : TypeId) : Blk (w.alloc (.cells cs t)) w.heap.size cs := ⟨by simp, cell_new w cs t, fun o => frozen_of_row _ _ _ _ _ (heap_alloc_new w _)⟩
theorem Blk.keeps {S : Nat → Prop} {w w' : World} {g : Nat} {cs : Array Value} (h : Blk w g cs) (k : Keeps S w w') (hn : ¬ S g) : Blk w' g cs :=
  ⟨Nat.lt_of_lt_of_le h.z k.size, fun o => (k.cell (p := ⟨g, o, none⟩) h.z hn).trans (h.C o), fun o => (k.frozen (p := ⟨g, o, none⟩) h.z hn).trans (h.F o)⟩
theorem Blk.below {w w' : World} {g : Nat} {cs : Array Value} (h : Blk w g cs) (hb : Below w.heap.size w w') : Blk w' g cs := h.keeps (S := fun _ => False) (Keeps.of_below hb) id
theorem Blk.alloc {w : World} {g : Nat} {cs : Array Value} (h : Blk w g cs) (o : Obj) : Blk (w.alloc o) g cs := h.below ((Below.refl _ _).alloc (Nat.le_refl _) _)
theorem Blk.set {w : World} {g : Nat} {cs : Array Value} (h : Blk w g cs) {i : Nat} (hi : i < cs.size) (v : Value) : Blk (w.setCell ⟨g, i, none⟩ v) g (cs.setIfInBounds i v) :=
  ⟨by simpa [World.setCell] using h.z, fun o => by
    by_cases e : o = i
    · subst e
      rw [World.cell?_setCell_same _ _ _ ((h.C o).trans (Array.getElem?_eq_getElem hi))]
      simp [hi]
    · rw [World.cell?_setCell_other _ _ _ _ (fun he => e (by injection he with _ h2 _; exact h2.symm)), h.C o, Array.getElem?_setIfInBounds_ne (fun he => e he.symm)],
   fun o => by rw [World.frozen?_setCell]; exact h.F o⟩

theorem Keeps.far {S : Nat → Prop} {w w' : World} (h : Keeps S w w') {p : Addr} (hp : w.heap.size ≤ p.block) (v : Value) : Keeps S w (w'.setCell p v) :=
  ⟨h.os, h.tape, h.output, by simpa [World.setCell] using h.size, fun b hb hn => (Below.heap_setCell _ _ _ _ (fun e => by omega)).trans (h.block b hb hn)⟩
theorem Keeps.alloc {S : Nat → Prop} {w w' : World} (h : Keeps S w w') (o : Obj) : Keeps S w (w'.alloc o) := h.trans (Keeps.of_below ((Below.refl _ _).alloc (Nat.le_refl _) o))
theorem Cur.far {T : TypeId} {k : IntKind} {w : World} {g : Nat} (h : Cur T k w g) {p : Addr} (hp : g < p.block) (v : Value) : Cur T k (w.setCell p v) g :=
  h.keeps (S := (· = p.block)) ((Keeps.refl (· = p.block) w).set (p := p) rfl v) (fun b hb e => by have e : b = p.block := e; omega)
theorem Cur.alloc {T : TypeId} {k : IntKind} {w : World} {g : Nat} (h : Cur T k w g) (o : Obj) : Cur T k (w.alloc o) g := h.below ((Below.refl _ _).alloc (Nat.le_refl _) o)

/-- Behind a draw of a record, whichever. -/
def DrawnRec (g : Nat) (w : World) (e : Ending) (w' : World) : Prop :=
  ∃ r : RecD, e = .returned (recV r) ∧ Cur 79 .i64 w' g ∧ Keeps (· = g) w w'
def pick3 (a b c : Int) (x : Nat) : Int := if x = 0 then a else if x = 1 then b else c
theorem pick3_get (a b c : Int) (x : Nat) (hx : x < ([.int .i64 a, .int .i64 b, .int .i64 c] : List Value).length) : ([.int .i64 a, .int .i64 b, .int .i64 c] : List Value)[x]'hx = .int .i64 (pick3 a b c x) := by
  have hx' : x < 3 := hx
  rcases (by omega : x = 0 ∨ x = 1 ∨ x = 2) with rfl | rfl | rfl <;> rfl

set_option maxRecDepth 100000 in
set_option maxHeartbeats 4000000 in
theorem l3Draw_any (g : Nat) (w : World) (h : Cur 79 .i64 w g) : Calls Tryd.prog 56 #[.pointer (some ⟨g, 0, none⟩)] w (DrawnRec g w) := by
  have hl := h.lt
  have harr := pick3_get
  have hne : ¬ w.heap.size = g := by omega
  have X0 := (Blk.new w #[.int .i64 0, .int .i64 0, .int .i64 0] 30).below (Below.refl _ _).drew
  have hc0 : Cur 79 .i64 (w.alloc (.cells #[.int .i64 0, .int .i64 0, .int .i64 0] 30)).drew g := (h.below ((Below.refl _ _).alloc (Nat.le_refl _) _)).below (Below.refl _ _).drew
  have hK0 : Keeps (· = g) w (w.alloc (.cells #[.int .i64 0, .int .i64 0, .int .i64 0] 30)).drew := Keeps.of_below ((Below.refl _ _).alloc (Nat.le_refl _) _).drew
  clear h
  go_enter Tryd.func56, Tryd.ntmps56
  go_wp2_with fail
  go_region_law (first
    | (have hq := hc5
       clear hq
       go_simp
       go_at_call 41
       refine (l1Below_any g 7 _ (by first | exact hc5 | exact hc5.below ((Below.refl _ _).alloc (Nat.le_refl _) _)) (by omega) (by omega)).mono ?_
       rintro e w6 ⟨a6, rfl, y60, y61, hc6, hk6⟩
       have K6 := Keeps.trans (by first | exact K5 | exact K5.alloc _) hk6
       have X6 := Blk.keeps (by first | exact X5 | exact X5.alloc _) hk6 hne
       have x6 := X6.C
       have l6 := X6.z
       have f6 := X6.F
       try (have Z6 := Z5.keeps hk6 hz5
            have z6 := Z6.C)
       try (have Z6 := Blk.keeps (Blk.new w5 #[.int .i64 a2, .int .i64 a3, .int .i64 a4] 2) hk6 hs5
            have z6 := Z6.C))
    | (have hq := hc4
       clear hq
       go_simp
       go_at_call 41
       refine (l1Below_any g 3 _ (by first | exact hc4 | exact hc4.below ((Below.refl _ _).alloc (Nat.le_refl _) _)) (by omega) (by omega)).mono ?_
       rintro e w5 ⟨a5, rfl, y50, y51, hc5, hk5⟩
       obtain ⟨a5, rfl⟩ := Int.eq_ofNat_of_zero_le y50
       have hx5 : a5 < 3 := by omega
       have K5 := Keeps.trans (by first | exact K4 | exact K4.alloc _) hk5
       have X5 := Blk.keeps (by first | exact X4 | exact X4.alloc _) hk5 hne
       have hs5 : ¬ w5.heap.size = g := by have := hc5.lt; omega
       have hz5 : ¬ w4.heap.size = g := by have := hc4.lt; omega
       try (have Z5 := Blk.keeps (Blk.new w4 #[.int .i64 a2, .int .i64 a3, .int .i64 a4] 2) hk5 hz5
            have z5 := Z5.C))
    | (have hq := hc3
       clear hq
       go_simp
       go_at_call 41
       refine (l1Below_big g 1000001 _ hc3 (by omega) (by omega)).mono ?_
       rintro e w4 ⟨a4, rfl, y40, y41, hc4, hk4⟩
       have K4 := K3.trans hk4
       have X4 := X3.keeps hk4 hne)
    | (have hq := hc2
       clear hq
       go_simp
       go_at_call 41
       refine (l1Below_big g 300 _ hc2 (by omega) (by omega)).mono ?_
       rintro e w3 ⟨a3, rfl, y30, y31, hc3, hk3⟩
       have K3 := K2.trans hk3
       have X3 := X2.keeps hk3 hne)
    | (have hq := hc1
       clear hq
       go_simp
       go_at_call 41
       refine (l1Below_any g 8 _ hc1 (by omega) (by omega)).mono ?_
       rintro e w2 ⟨a2, rfl, y20, y21, hc2, hk2⟩
       have K2 := K1.trans hk2
       have X2 := X1.keeps hk2 hne)
    | (have hq := hc0
       clear hq
       go_simp
       go_at_call 57
       refine (l1From_any g 1 12 _ hc0 (by omega) (by omega) (by omega) (by omega)).mono ?_
       rintro e w1 ⟨a1, rfl, y10, y11, hc1, hk1⟩
       have K1 := hK0.trans hk1
       have X1 := X0.keeps hk1 hne))
  all_goals
    have X7 := ((X6.set (i := 0) (by decide) (.int .i64 a1)).set (i := 1) (by simp) (.int .i64 (pick3 a2 a3 a4 a5))).set (i := 2) (by simp) (.int .i64 a6)
    have C7 := ((hc6.far (p := ⟨w.heap.size, 0, none⟩) hl (.int .i64 a1)).far (p := ⟨w.heap.size, 1, none⟩) hl (.int .i64 (pick3 a2 a3 a4 a5))).far (p := ⟨w.heap.size, 2, none⟩) hl (.int .i64 a6)
    have K7 := ((K6.far (p := ⟨w.heap.size, 0, none⟩) (Nat.le_refl _) (.int .i64 a1)).far (p := ⟨w.heap.size, 1, none⟩) (Nat.le_refl _) (.int .i64 (pick3 a2 a3 a4 a5))).far (p := ⟨w.heap.size, 2, none⟩) (Nat.le_refl _) (.int .i64 a6)
    clear x6 f6 l6
    go_wp2_with fail
    first
      | (have r7 := X7.C
         refine bodyPost_ret (v := recV ⟨a1, pick3 a2 a3 a4 a5, a6⟩) ?_ rfl ⟨⟨a1, pick3 a2 a3 a4 a5, a6⟩, rfl, C7, K7⟩
         simp [results, Tryd.results56, go_sem, r7, recV])
      | (have r7 := (X7.alloc (.cells #[.int .i64 a2, .int .i64 a3, .int .i64 a4] 2)).C
         refine bodyPost_ret (v := recV ⟨a1, pick3 a2 a3 a4 a5, a6⟩) ?_ rfl ⟨⟨a1, pick3 a2 a3 a4 a5, a6⟩, rfl, C7.alloc _, K7.alloc _⟩
         simp [results, Tryd.results56, go_sem, r7, recV])
end Go.Proofs.YtcpmkbemkhacnaaDoor
