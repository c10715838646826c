/-
  What the program's changes do to a state in a box.
-/
import Derived.Test.YtlfppcppjbfieaaGreatDoorXd
import Derived.Test.YtlfppcppjbfieaaGreatDoorWb
import Derived.Test.YtlfppcppjbfieaaGreatDoorUt
set_option linter.unusedVariables false
namespace Go.Proofs.YtlfppcppjbfieaaGreatDoor
open Go.RowKit

/-- A state in a box, the call's own, its lists as well. -/
def BxS (w : World) (B g : Nat) (v : Value) (s : StD) : Prop := OwnSt w B v s ∧ ∃ cs : Array Value, v = .agg cs ∧ BoxS w B g cs.toList
/-- What a change answers. -/
def Chg (w : World) (B g : Nat) (v : Value) (t : StD) (e : Ending) (w' : World) : Prop := e = .returned (.tuple #[]) ∧ (∃ v', BxS w' B g v' t) ∧ Keeps (fun b => b = g ∨ rowsOf v b) w w'
theorem keep_other {w w' : World} {B B' e e' k k' n n' g : Nat} {v v' : Value} {xs xs' : List Value} (h : w.ownsRow B e k v n xs) (h' : w.ownsRow B' e' k' v' n' xs') (hv' : v'.ownBlock = some g) (hne : e ≠ e') (kp : Keeps (· = g) w w') : w'.ownsRow B e k v n xs :=
  ownsRow_keeps h kp fun r hr e => hne (row_type h h' (e ▸ hr) hv')
theorem keeps_set (w : World) (g o : Nat) (u : Value) : Keeps (· = g) w (w.setCell ⟨g, o, none⟩ u) := (Keeps.refl (· = g) w).set rfl u
theorem box_apart {w : World} {B B' e k n g : Nat} {v : Value} {xs xs' : List Value} (h : w.ownsRow B e k v n xs) (X : BoxS w B' g xs') (hne : e ≠ 40) : v.ownBlock ≠ some g := fun hv => hne (row_type h X hv rfl)

set_option maxRecDepth 4000 in
set_option maxHeartbeats 2000000 in
theorem chg_clock (v : Value) (s : StD) (a b : Int) (w : World) (B g : Nat) (h : BxS w B g v s) :
    Calls Tryz.prog 94 #[.pointer (some ⟨g, 0, none⟩), .int .i64 a, .int .i64 b] w (Chg w B g v (applyR s ⟨8, a, b⟩)) := by
  obtain ⟨O, cs, hv, X⟩ := h
  obtain ⟨v0, v1, v2, v3, rfl, h0, h1, h2, h3⟩ := O.it
  injection hv with hv
  subst hv
  have H0 := Lib.hid h0
  have H1 := Lib.hid h1
  have H2 := Lib.hid h2
  have H3 := Lib.hid h3
  have HX := Lib.hid X
  have hC := X.C
  have hF := X.frozen
  obtain ⟨ph, co, ck, bo, ba, lb, l0, l1, l2, l3, gd, pr⟩ := s
  dsimp only at *
  clear X O h0 h1 h2 h3
  go_enter Tryz.func94, Tryz.ntmps94
  go_wp2
  refine bodyPost_ret (v := .tuple #[]) (by simp [results, Tryz.results94, go_sem]) rfl ?_
  have X0 := HX.out
  have k0 := Keeps.refl (· = g) w
  have X1 := (World.ownsRow.stored X0 2 (.int .i64 a)).1
  have k1 := k0.set (p := ⟨g, 2, none⟩) rfl (.int .i64 a)
  refine ⟨rfl, ⟨_, ⟨v0, v1, v2, v3, rfl, keep_other H0.out HX.out rfl (by decide) k1, keep_other H1.out HX.out rfl (by decide) k1, keep_other H2.out HX.out rfl (by decide) k1, keep_other H3.out HX.out rfl (by decide) k1⟩, _, rfl, X1⟩, k1.mono fun b hb => Or.inl hb⟩

set_option maxRecDepth 4000 in
set_option maxHeartbeats 2000000 in
theorem chg_band (v : Value) (s : StD) (a b : Int) (w : World) (B g : Nat) (h : BxS w B g v s) :
    Calls Tryz.prog 95 #[.pointer (some ⟨g, 0, none⟩), .int .i64 a, .int .i64 b] w (Chg w B g v (applyR s ⟨9, a, b⟩)) := by
  obtain ⟨O, cs, hv, X⟩ := h
  obtain ⟨v0, v1, v2, v3, rfl, h0, h1, h2, h3⟩ := O.it
  injection hv with hv
  subst hv
  have H0 := Lib.hid h0
  have H1 := Lib.hid h1
  have H2 := Lib.hid h2
  have H3 := Lib.hid h3
  have HX := Lib.hid X
  have hC := X.C
  have hF := X.frozen
  obtain ⟨ph, co, ck, bo, ba, lb, l0, l1, l2, l3, gd, pr⟩ := s
  dsimp only at *
  clear X O h0 h1 h2 h3
  go_enter Tryz.func95, Tryz.ntmps95
  go_wp2
  refine bodyPost_ret (v := .tuple #[]) (by simp [results, Tryz.results95, go_sem]) rfl ?_
  have X0 := HX.out
  have k0 := Keeps.refl (· = g) w
  have X1 := (World.ownsRow.stored X0 4 (.int .i64 a)).1
  have k1 := k0.set (p := ⟨g, 4, none⟩) rfl (.int .i64 a)
  refine ⟨rfl, ⟨_, ⟨v0, v1, v2, v3, rfl, keep_other H0.out HX.out rfl (by decide) k1, keep_other H1.out HX.out rfl (by decide) k1, keep_other H2.out HX.out rfl (by decide) k1, keep_other H3.out HX.out rfl (by decide) k1⟩, _, rfl, X1⟩, k1.mono fun b hb => Or.inl hb⟩

set_option maxRecDepth 4000 in
set_option maxHeartbeats 2000000 in
theorem chg_boot (v : Value) (s : StD) (a b : Int) (w : World) (B g : Nat) (h : BxS w B g v s) :
    Calls Tryz.prog 96 #[.pointer (some ⟨g, 0, none⟩), .int .i64 a, .int .i64 b] w (Chg w B g v (applyR s ⟨10, a, b⟩)) := by
  obtain ⟨O, cs, hv, X⟩ := h
  obtain ⟨v0, v1, v2, v3, rfl, h0, h1, h2, h3⟩ := O.it
  injection hv with hv
  subst hv
  have H0 := Lib.hid h0
  have H1 := Lib.hid h1
  have H2 := Lib.hid h2
  have H3 := Lib.hid h3
  have HX := Lib.hid X
  have hC := X.C
  have hF := X.frozen
  obtain ⟨ph, co, ck, bo, ba, lb, l0, l1, l2, l3, gd, pr⟩ := s
  dsimp only at *
  clear X O h0 h1 h2 h3
  go_enter Tryz.func96, Tryz.ntmps96
  go_wp2
  refine bodyPost_ret (v := .tuple #[]) (by simp [results, Tryz.results96, go_sem]) rfl ?_
  have X0 := HX.out
  have k0 := Keeps.refl (· = g) w
  have X1 := (World.ownsRow.stored X0 3 (.int .i64 a)).1
  have k1 := k0.set (p := ⟨g, 3, none⟩) rfl (.int .i64 a)
  refine ⟨rfl, ⟨_, ⟨v0, v1, v2, v3, rfl, keep_other H0.out HX.out rfl (by decide) k1, keep_other H1.out HX.out rfl (by decide) k1, keep_other H2.out HX.out rfl (by decide) k1, keep_other H3.out HX.out rfl (by decide) k1⟩, _, rfl, X1⟩, k1.mono fun b hb => Or.inl hb⟩

set_option maxRecDepth 4000 in
set_option maxHeartbeats 2000000 in
theorem chg_lockBy (v : Value) (s : StD) (a b : Int) (w : World) (B g : Nat) (h : BxS w B g v s) :
    Calls Tryz.prog 97 #[.pointer (some ⟨g, 0, none⟩), .int .i64 a, .int .i64 b] w (Chg w B g v (applyR s ⟨11, a, b⟩)) := by
  obtain ⟨O, cs, hv, X⟩ := h
  obtain ⟨v0, v1, v2, v3, rfl, h0, h1, h2, h3⟩ := O.it
  injection hv with hv
  subst hv
  have H0 := Lib.hid h0
  have H1 := Lib.hid h1
  have H2 := Lib.hid h2
  have H3 := Lib.hid h3
  have HX := Lib.hid X
  have hC := X.C
  have hF := X.frozen
  obtain ⟨ph, co, ck, bo, ba, lb, l0, l1, l2, l3, gd, pr⟩ := s
  dsimp only at *
  clear X O h0 h1 h2 h3
  go_enter Tryz.func97, Tryz.ntmps97
  go_wp2
  refine bodyPost_ret (v := .tuple #[]) (by simp [results, Tryz.results97, go_sem]) rfl ?_
  have X0 := HX.out
  have k0 := Keeps.refl (· = g) w
  have X1 := (World.ownsRow.stored X0 5 (.int .i64 a)).1
  have k1 := k0.set (p := ⟨g, 5, none⟩) rfl (.int .i64 a)
  refine ⟨rfl, ⟨_, ⟨v0, v1, v2, v3, rfl, keep_other H0.out HX.out rfl (by decide) k1, keep_other H1.out HX.out rfl (by decide) k1, keep_other H2.out HX.out rfl (by decide) k1, keep_other H3.out HX.out rfl (by decide) k1⟩, _, rfl, X1⟩, k1.mono fun b hb => Or.inl hb⟩

set_option maxRecDepth 4000 in
set_option maxHeartbeats 2000000 in
theorem chg_probe (v : Value) (s : StD) (a b : Int) (w : World) (B g : Nat) (h : BxS w B g v s) :
    Calls Tryz.prog 98 #[.pointer (some ⟨g, 0, none⟩), .int .i64 a, .int .i64 b] w (Chg w B g v (applyR s ⟨12, a, b⟩)) := by
  obtain ⟨O, cs, hv, X⟩ := h
  obtain ⟨v0, v1, v2, v3, rfl, h0, h1, h2, h3⟩ := O.it
  injection hv with hv
  subst hv
  have H0 := Lib.hid h0
  have H1 := Lib.hid h1
  have H2 := Lib.hid h2
  have H3 := Lib.hid h3
  have HX := Lib.hid X
  have hC := X.C
  have hF := X.frozen
  obtain ⟨ph, co, ck, bo, ba, lb, l0, l1, l2, l3, gd, pr⟩ := s
  dsimp only at *
  clear X O h0 h1 h2 h3
  go_enter Tryz.func98, Tryz.ntmps98
  go_wp2
  refine bodyPost_ret (v := .tuple #[]) (by simp [results, Tryz.results98, go_sem]) rfl ?_
  have X0 := HX.out
  have k0 := Keeps.refl (· = g) w
  have X1 := (World.ownsRow.stored X0 10 (.int .i64 a)).1
  have k1 := k0.set (p := ⟨g, 10, none⟩) rfl (.int .i64 a)
  have X2 := (World.ownsRow.stored X1 11 (.int .i64 b)).1
  have k2 := k1.set (p := ⟨g, 11, none⟩) rfl (.int .i64 b)
  refine ⟨rfl, ⟨_, ⟨v0, v1, v2, v3, rfl, keep_other H0.out HX.out rfl (by decide) k2, keep_other H1.out HX.out rfl (by decide) k2, keep_other H2.out HX.out rfl (by decide) k2, keep_other H3.out HX.out rfl (by decide) k2⟩, _, rfl, X2⟩, k2.mono fun b hb => Or.inl hb⟩
end Go.Proofs.YtlfppcppjbfieaaGreatDoor
