/-
  The program's StateOk: a state beside its plan.
-/
import Derived.Test.YtlmjjkljkmalpaaMF2
import Derived.Test.YtlmjjkljkmalpaaMFxUh
import Derived.Test.YtlmjjkljkmalpaaMFxPd
import Derived.Deep.DeepCutAuto
import Derived.Test.YtlmjjkljkmalpaaMFxBa
import Derived.Test.YtlmjjkljkmalpaaMF0
import Derived.Test.YtlmjjkljkmalpaaMFxPc
import Derived.Laws.Tables
import Derived.Laws.CopyOwn
/- Ur -/
set_option linter.unusedVariables false
namespace Go.Proofs.Ytlmjjkljkmalpaa
open Go.RowKit

end Go.Proofs.Ytlmjjkljkmalpaa
/- Us -/
set_option linter.unusedVariables false
namespace Go.Proofs.Ytlmjjkljkmalpaa
open Go.RowKit

theorem three (w : World) (o o' o'' : Obj) : Below w.heap.size w (((w.alloc o).alloc o').alloc o'') := (((Below.refl _ _).alloc (Nat.le_refl _) _).alloc (by simp) _).alloc (by simp; omega) _
/-- The blocks of a state's lists. -/
def rowsOf (v : Value) (g : Nat) : Prop := ∃ (cs : Array Value) (i : Nat) (u : Value), v = .agg cs ∧ cs[i]? = some u ∧ u.ownBlock = some g
theorem OwnSt.blocks {w : World} {B : Nat} {v : Value} {s : StD} (h : OwnSt w B v s) {g : Nat} (hg : rowsOf v g) : B ≤ g ∧ g < w.heap.size := by
  obtain ⟨v0, v1, v2, v3, rfl, h0, h1, h2, h3⟩ := h.it
  obtain ⟨cs, i, u, hv, hc, hu⟩ := hg
  injection hv with hv
  subst hv
  match i, hc with
  | 0, hc => cases hc; cases hu
  | 1, hc => cases hc; cases hu
  | 2, hc => cases hc; cases hu
  | 3, hc => cases hc; cases hu
  | 4, hc => cases hc; cases hu
  | 5, hc => cases hc; cases hu
  | 6, hc => cases hc; exact h0.lt g hu
  | 7, hc => cases hc; exact h1.lt g hu
  | 8, hc => cases hc; exact h2.lt g hu
  | 9, hc => cases hc; exact h3.lt g hu
  | 10, hc => cases hc; cases hu
  | 11, hc => cases hc; cases hu
  | k + 12, hc => simp at hc
end Go.Proofs.Ytlmjjkljkmalpaa
/- Ut -/
set_option linter.unusedVariables false
namespace Go.Proofs.Ytlmjjkljkmalpaa
open Go.RowKit

end Go.Proofs.Ytlmjjkljkmalpaa
/- Uu -/
set_option linter.unusedVariables false
namespace Go.Proofs.Ytlmjjkljkmalpaa
open Go.RowKit

end Go.Proofs.Ytlmjjkljkmalpaa
/- Uo -/
set_option linter.unusedVariables false
namespace Go.Proofs.Ytlmjjkljkmalpaa
open Go.RowKit

theorem alive_any (x : Int) (w : World) : Calls Try.prog 47 #[.int .i64 x] w fun e w' => e = .returned (.bool (aliveB x)) ∧ w = w' := by
  go_enter Try.func47, Try.ntmps47
  go_wp2_with fail
  refine (in_any _ _ _ _).mono ?_
  rintro e w' ⟨rfl, rfl⟩
  go_wp2
  go_ret
  exact ⟨rfl, rfl⟩

theorem alloc_here {W : World} {o : Obj} {g : Nat} (hg : W.heap.size = g) : (W.alloc o).heap[g]? = some o := by
  subst hg
  exact heap_alloc_new W o
theorem alloc_there {W : World} {o : Obj} {g : Nat} (hg : g < W.heap.size) : (W.alloc o).heap[g]? = W.heap[g]? := ((Below.refl W.heap.size W).alloc (Nat.le_refl _) o).block g hg

theorem own_of_heap {w : World} {B e k n g : Nat} {xs : List Value} {cur : Array Value} (hh : w.heap[g]? = some (.cells cur e)) (hc : cur = xs.toArray) (hl : xs.length = n * k) (hb : B ≤ g) (hn : n ≤ maxLen) :
    w.ownsRow B e k (.slice (some ⟨g, 0, none⟩) n n) n xs := ⟨hl, .inr ⟨g, n, cur, rfl, hb, hh, Nat.le_refl _, hn, by subst hc; simp [hl], by subst hc; simp [← hl]⟩⟩
/-- A new state being made. -/
structure NewB (w wr : World) (g0 g1 g2 g3 n0 n2 n3 : Nat) (L1 : List (Bool × Int)) (L2 : List Bool) : Prop where
  l1 : L1.length = n2
  l2 : L2.length = n3
  S : Own w wr g3 (stC (some ⟨g0, 0, none⟩) (some ⟨g1, 0, none⟩) (some ⟨g2, 0, none⟩) none n0 n0 n2 n2 n3 n3 0 0 0 false 0 0 0 0 0 0)
  O : Own w wr (w.heap.size + 1) (stC none none none none 0 0 0 0 0 0 0 0 0 false 0 0 0 0 0 0)
  r0 : wr.ownsRow (w.heap.size + 2) 70 2 (.slice (some ⟨g0, 0, none⟩) n0 n0) n0 (podCs (List.replicate n0 (0, 0)))
  r1 : wr.ownsRow (w.heap.size + 2) 68 2 (.slice (some ⟨g1, 0, none⟩) n2 n2) n2 (mntCs L1)
  r2 : wr.ownsRow (w.heap.size + 2) 4 1 (.slice (some ⟨g2, 0, none⟩) n3 n3) n3 (devCs L2)
theorem NewB.step {w wr w2 : World} {g0 g1 g2 g3 n0 n2 n3 : Nat} {L1 : List (Bool × Int)} {L2 : List Bool} (h : NewB w wr g0 g1 g2 g3 n0 n2 n3 L1 L2) (hb : Below wr.heap.size wr w2) : NewB w w2 g0 g1 g2 g3 n0 n2 n3 L1 L2 :=
  ⟨h.l1, h.l2, h.S.step hb, h.O.step hb, ownsRow_below h.r0 hb, ownsRow_below h.r1 hb, ownsRow_below h.r2 hb⟩
end Go.Proofs.Ytlmjjkljkmalpaa
/- Wb -/
set_option linter.unusedVariables false
namespace Go.Proofs.Ytlmjjkljkmalpaa
open Go.RowKit

/-- A box of a state, the call's own. -/
def BoxS (w : World) (B g : Nat) (xs : List Value) : Prop := w.ownsRow B 45 12 (.slice (some ⟨g, 0, none⟩) 1 1) 1 xs
theorem BoxS.new {W : World} {B g : Nat} {cs : Array Value} (hg : W.heap.size = g) (hB : B ≤ W.heap.size) (hl : cs.size = 12) : BoxS (W.alloc (.cells cs 45)) B g cs.toList := by
  subst hg
  exact own_of_heap (cur := cs) (heap_alloc_new W _) (by simp) (by simp [hl]) hB (by unfold maxLen; decide)
theorem BoxS.at_ {w : World} {B g : Nat} {xs : List Value} (h : BoxS w B g xs) (o : Nat) (ho : o < 12) : w.cell? ⟨g, o, none⟩ = xs[o]? := World.ownsRow.cellAt h o (by omega)
theorem BoxS.C {w : World} {B g : Nat} {cs : Array Value} (h : BoxS w B g cs.toList) : ∀ o, w.cell? ⟨g, o, none⟩ = cs[o]? := by
  intro o
  obtain ⟨hl, ⟨hv, _⟩ | ⟨g', cap, cur, hv, hb, hh, hnc, hcm, hsz, ht⟩⟩ := id h
  · cases hv
  · injection hv with h1 h2 h3
    injection h1 with h1
    injection h1 with h1 _ _
    subst h1 h3
    by_cases ho : o < 12
    · rw [h.at_ o ho, Array.getElem?_toList]
    · rw [cell_of_row _ _ _ _ _ _ hh, Array.getElem?_eq_none (by omega), Array.getElem?_eq_none (by simpa using (by omega : cs.toList.length ≤ o))]
theorem BoxS.frozen {w : World} {B g : Nat} {xs : List Value} (h : BoxS w B g xs) (o : Nat) : w.frozen? ⟨g, o, none⟩ = false := World.ownsRow.frozenAt h o
theorem BoxS.lt {w : World} {B g : Nat} {xs : List Value} (h : BoxS w B g xs) : B ≤ g ∧ g < w.heap.size := World.ownsRow.lt h g rfl
theorem BoxS.go {w w' : World} {B g : Nat} {xs : List Value} (h : BoxS w B g xs) (hb : Below w.heap.size w w') : BoxS w' B g xs := ownsRow_below h hb
section
variable (W : World) (g : Nat) (y0 y1 y2 y3 y4 y5 y6 y7 y8 y9 ya yb : Value)
/-- The world with twelve cells of block g set. -/
abbrev put12 : World := (((((((((((W.setCell ⟨g, 0, none⟩ y0).setCell ⟨g, 1, none⟩ y1).setCell ⟨g, 2, none⟩ y2).setCell ⟨g, 3, none⟩ y3).setCell ⟨g, 4, none⟩ y4).setCell ⟨g, 5, none⟩ y5).setCell ⟨g, 6, none⟩ y6).setCell ⟨g, 7, none⟩ y7).setCell ⟨g, 8, none⟩ y8).setCell ⟨g, 9, none⟩ y9).setCell ⟨g, 10, none⟩ ya).setCell ⟨g, 11, none⟩ yb
end
theorem BoxS.put {W : World} {B g : Nat} {x0 x1 x2 x3 x4 x5 x6 x7 x8 x9 xa xb : Value} (h : BoxS W B g [x0, x1, x2, x3, x4, x5, x6, x7, x8, x9, xa, xb]) (y0 y1 y2 y3 y4 y5 y6 y7 y8 y9 ya yb : Value) :
    BoxS (put12 W g y0 y1 y2 y3 y4 y5 y6 y7 y8 y9 ya yb) B g [y0, y1, y2, y3, y4, y5, y6, y7, y8, y9, ya, yb] := by
  have h0 := (World.ownsRow.stored h 0 y0).1
  have h1 := (World.ownsRow.stored h0 1 y1).1
  have h2 := (World.ownsRow.stored h1 2 y2).1
  have h3 := (World.ownsRow.stored h2 3 y3).1
  have h4 := (World.ownsRow.stored h3 4 y4).1
  have h5 := (World.ownsRow.stored h4 5 y5).1
  have h6 := (World.ownsRow.stored h5 6 y6).1
  have h7 := (World.ownsRow.stored h6 7 y7).1
  have h8 := (World.ownsRow.stored h7 8 y8).1
  have h9 := (World.ownsRow.stored h8 9 y9).1
  have ha := (World.ownsRow.stored h9 10 ya).1
  exact (World.ownsRow.stored ha 11 yb).1
end Go.Proofs.Ytlmjjkljkmalpaa
/- Wd -/
set_option linter.unusedVariables false
namespace Go.Proofs.Ytlmjjkljkmalpaa
open Go.RowKit

end Go.Proofs.Ytlmjjkljkmalpaa
/- Vx -/
set_option linter.unusedVariables false
namespace Go.Proofs.Ytlmjjkljkmalpaa
open Go.RowKit

/-- A state beside its plan: its cells. -/
abbrev besC (A0 A1 A2 A3 : Option Addr) (n0 c0 n1 c1 n2 c2 n3 c3 : Nat) (l p t : Int) (E0 E1 E2 E3 : Option Addr) (m0 k0 m1 k1 m2 k2 m3 k3 : Nat) (ph : Int) (co : Bool) (ck bo ba lb gd pr : Int) : Array Value :=
  #[.int .i64 ph, .int .i64 ck, .int .i64 bo, .int .i64 ba, .int .i64 lb, .int .i64 gd, .int .i64 pr,
    .slice A0 n0 c0, .slice A1 n1 c1, .slice A2 n2 c2, .slice A3 n3 c3, .int .i64 l, .int .i64 p, .int .i64 t, .bool co,
    .slice E0 m0 k0, .slice E1 m1 k1, .slice E2 m2 k2, .slice E3 m3 k3]
abbrev cntV (ph ck bo ba lb gd pr : Int) : Value := .agg #[.int .i64 ph, .int .i64 ck, .int .i64 bo, .int .i64 ba, .int .i64 lb, .int .i64 gd, .int .i64 pr]

section
variable (A0 A1 A2 A3 : Option Addr) (n0 c0 n1 c1 n2 c2 n3 c3 : Nat) (l p t : Int) (E0 E1 E2 E3 : Option Addr) (m0 k0 m1 k1 m2 k2 m3 k3 : Nat) (ph : Int) (co : Bool) (ck bo ba lb gd pr : Int)
set_option maxHeartbeats 4000000 in
theorem besidePlan_any (w : World) :
    Calls Try.prog 54 #[planV A0 A1 A2 A3 n0 c0 n1 c1 n2 c2 n3 c3 l p t, .agg (stC E0 E1 E2 E3 m0 k0 m1 k1 m2 k2 m3 k3 ph co ck bo ba lb gd pr)] w fun e w' =>
      e = .returned (.agg (besC A0 A1 A2 A3 n0 c0 n1 c1 n2 c2 n3 c3 l p t E0 E1 E2 E3 m0 k0 m1 k1 m2 k2 m3 k3 ph co ck bo ba lb gd pr)) ∧ Below w.heap.size w w' := by
  have T0 := Two.start w (planC A0 A1 A2 A3 n0 c0 n1 c1 n2 c2 n3 c3 l p t) (stC E0 E1 E2 E3 m0 k0 m1 k1 m2 k2 m3 k3 ph co ck bo ba lb gd pr) 40 45
  go_enter Try.func54, Try.ntmps54
  go_upto_region 1 with fail
  have X := Own.box2 T0.O.K (besC none none none none 0 0 0 0 0 0 0 0 0 0 0 none none none none 0 0 0 0 0 0 0 0 0 false 0 0 0 0 0 0) 99
  have T := T0.step ((Below.refl _ _).alloc (Nat.le_refl _) (.cells (besC none none none none 0 0 0 0 0 0 0 0 0 0 0 none none none none 0 0 0 0 0 0 0 0 0 false 0 0 0 0 0 0) 99))
  have hH := heap_alloc_new ((w.alloc (.cells (planC A0 A1 A2 A3 n0 c0 n1 c1 n2 c2 n3 c3 l p t) 40)).alloc (.cells (stC E0 E1 E2 E3 m0 k0 m1 k1 m2 k2 m3 k3 ph co ck bo ba lb gd pr) 45)) (.cells (besC none none none none 0 0 0 0 0 0 0 0 0 0 0 none none none none 0 0 0 0 0 0 0 0 0 false 0 0 0 0 0 0) 99)
  clear T0
  have hC := T.A.C
  have hD := T.O.C
  have K := X.K
  clear T X
  simp only [heap_size_alloc_] at *
  generalize hW : ((w.alloc _).alloc _).alloc _ = W at *
  clear hW
  have hi : (Try.prog.info? 99).map (·.size) = some (besC A0 A1 A2 A3 n0 c0 n1 c1 n2 c2 n3 c3 l p t E0 E1 E2 E3 m0 k0 m1 k1 m2 k2 m3 k3 ph co ck bo ba lb gd pr).size := by kernel_rfl
  have h1 : (besC A0 A1 A2 A3 n0 c0 n1 c1 n2 c2 n3 c3 l p t E0 E1 E2 E3 m0 k0 m1 k1 m2 k2 m3 k3 ph co ck bo ba lb gd pr).all (·.oneCell') = true := by simp [Value.oneCell']
  go_wp2_with (refine wpList_store_row rfl _ _ _ rfl (w.heap.size + 1 + 1) (besC A0 A1 A2 A3 n0 c0 n1 c1 n2 c2 n3 c3 l p t E0 E1 E2 E3 m0 k0 m1 k1 m2 k2 m3 k3 ph co ck bo ba lb gd pr) rfl rfl _ _ hH hi rfl h1 ?_)
  exact bodyPost_ret (v := .agg (besC A0 A1 A2 A3 n0 c0 n1 c1 n2 c2 n3 c3 l p t E0 E1 E2 E3 m0 k0 m1 k1 m2 k2 m3 k3 ph co ck bo ba lb gd pr)) (results_cell_row Try.results54 _ _ _ _ _ _ _ rfl (setRow_heap W _ _ _ _ _ hH) Try.underlying99 rfl hi) rfl ⟨rfl, below_setRow K (by omega) _⟩
end
end Go.Proofs.Ytlmjjkljkmalpaa
/- Va -/
set_option linter.unusedVariables false
namespace Go.Proofs.Ytlmjjkljkmalpaa
open Go.RowKit

section
variable (A0 A1 A2 A3 : Option Addr) (n0 c0 n1 c1 n2 c2 n3 c3 : Nat) (l p t : Int) (E0 E1 E2 E3 : Option Addr) (m0 k0 m1 k1 m2 k2 m3 k3 : Nat) (ph : Int) (co : Bool) (ck bo ba lb gd pr : Int)
set_option maxHeartbeats 1000000 in
theorem countsRight_any (w : World) (b0 : n0 ≤ maxLen) (b2 : n2 ≤ maxLen) (b3 : n3 ≤ maxLen) (d0 : m0 ≤ maxLen) (d1 : m1 ≤ maxLen) (d2 : m2 ≤ maxLen) :
    Calls Try.prog 70 #[.agg (besC A0 A1 A2 A3 n0 c0 n1 c1 n2 c2 n3 c3 l p t E0 E1 E2 E3 m0 k0 m1 k1 m2 k2 m3 k3 ph co ck bo ba lb gd pr)] w fun e w' =>
      e = .returned (.bool (decide (m0 = n0) && decide (m1 = n2) && decide (m2 = n3))) ∧ Below w.heap.size w w' := by
  unfold maxLen at b0 b2 b3 d0 d1 d2
  by_cases e0 : m0 = n0
  · by_cases e1 : m1 = n2
    · by_cases e2 : m2 = n3
      · subst e0 e1 e2
        go_enter Try.func70, Try.ntmps70
        go_wp2
        all_goals (go_ret; refine ⟨ret_bool (by simp), (Below.refl _ _).alloc (Nat.le_refl _) _⟩)
      · subst e0 e1
        have e2' : ¬ (m2 : Int) = n3 := by omega
        go_enter Try.func70, Try.ntmps70
        go_wp2
        all_goals (go_ret; refine ⟨ret_bool (by simp [e2, e2']), (Below.refl _ _).alloc (Nat.le_refl _) _⟩)
    · subst e0
      have e1' : ¬ (m1 : Int) = n2 := by omega
      go_enter Try.func70, Try.ntmps70
      go_wp2
      all_goals (go_ret; refine ⟨ret_bool (by simp [e1]), (Below.refl _ _).alloc (Nat.le_refl _) _⟩)
  · have e0' : ¬ (m0 : Int) = n0 := by omega
    go_enter Try.func70, Try.ntmps70
    go_wp2
    all_goals (go_ret; refine ⟨ret_bool (by simp [e0]), (Below.refl _ _).alloc (Nat.le_refl _) _⟩)

def cntB (ph ck bo ba lb : Int) : Bool := inB ph 0 8 && inB ba 0 6 && inB ck 0 1000000 && inB bo 0 1000000 && inB lb 0 1000000
set_option maxHeartbeats 1000000 in
theorem numbersRight_any (w : World) :
    Calls Try.prog 71 #[cntV ph ck bo ba lb gd pr] w fun e w' => e = .returned (.bool (cntB ph ck bo ba lb)) ∧ Below w.heap.size w w' := by
  go_enter Try.func71, Try.ntmps71
  go_wp2_with (go_at_call 76; refine (within_any _ _ _ _).mono ?_; rintro e w' ⟨rfl, rfl⟩)
  all_goals (go_ret; refine ⟨ret_bool ?_, (Below.refl _ _).alloc (Nat.le_refl _) _⟩)
  all_goals simp [cntB, *]

def prbB (gd pr tr : Int) : Bool := inB gd 0 pr && decide (pr ≤ tr)
set_option maxHeartbeats 1000000 in
theorem probesRight_any (tr : Int) (w : World) :
    Calls Try.prog 72 #[cntV ph ck bo ba lb gd pr, .int .i64 tr] w fun e w' => e = .returned (.bool (prbB gd pr tr)) ∧ Below w.heap.size w w' := by
  unfold prbB
  by_cases h2 : pr ≤ tr
  · go_enter Try.func72, Try.ntmps72
    go_wp2_with (go_at_call 76; refine (within_any _ _ _ _).mono ?_; rintro e w' ⟨rfl, rfl⟩)
    all_goals (go_ret; refine ⟨ret_bool ?_, (Below.refl _ _).alloc (Nat.le_refl _) _⟩)
    all_goals simp [*]
  · have h3 : tr < pr := by omega
    go_enter Try.func72, Try.ntmps72
    go_wp2_with (go_at_call 76; refine (within_any _ _ _ _).mono ?_; rintro e w' ⟨rfl, rfl⟩)
    all_goals (go_ret; refine ⟨ret_bool ?_, (Below.refl _ _).alloc (Nat.le_refl _) _⟩)
    all_goals simp [*]

set_option maxHeartbeats 1000000 in
theorem besPod_any (L : List (Int × Int)) (i : Nat) (w : World) (hl : L.length = m0) (s0 : SlV w w.heap.size 2 E0 m0 (podCs L)) (hi : i < m0) (b0 : m0 ≤ maxLen) :
    Calls Try.prog 73 #[.agg (besC A0 A1 A2 A3 n0 c0 n1 c1 n2 c2 n3 c3 l p t E0 E1 E2 E3 m0 k0 m1 k1 m2 k2 m3 k3 ph co ck bo ba lb gd pr), .int .i64 i] w fun e w' =>
      e = .returned (.bool (podOkB (podA L i))) ∧ Below w.heap.size w w' := by
  unfold maxLen at b0
  obtain ⟨b, off, rfl, hb, hc⟩ := s0.cell hi
  have hp := podCs_at L (i := i) (by omega)
  have q0 := (hc 0 (by decide)).trans hp.1
  have q1 := (hc 1 (by decide)).trans hp.2
  rw [Nat.add_zero] at q0
  clear hc hp s0 hl
  generalize podA L i = r at *
  obtain ⟨x, y⟩ := r
  dsimp only at q0 q1
  go_enter Try.func73, Try.ntmps73
  go_wp2_with (go_at_call 76; refine (within_any _ _ _ _).mono ?_; rintro e w' ⟨rfl, rfl⟩)
  all_goals (go_ret; refine ⟨ret_bool ?_, ((Below.refl _ _).alloc (Nat.le_refl _) _).alloc (by simp) _⟩)
  all_goals simp [podOkB, *]

set_option maxHeartbeats 1000000 in
theorem besMount_any (L : List (Bool × Int)) (i : Nat) (w : World) (hl : L.length = m1) (s0 : SlV w w.heap.size 2 E1 m1 (mntCs L)) (hi : i < m1) (b0 : m1 ≤ maxLen) :
    Calls Try.prog 74 #[.agg (besC A0 A1 A2 A3 n0 c0 n1 c1 n2 c2 n3 c3 l p t E0 E1 E2 E3 m0 k0 m1 k1 m2 k2 m3 k3 ph co ck bo ba lb gd pr), .int .i64 i] w fun e w' =>
      e = .returned (.bool (mntOkB (mntA L i))) ∧ Below w.heap.size w w' := by
  unfold maxLen at b0
  obtain ⟨b, off, rfl, hb, hc⟩ := s0.cell hi
  have hp := mntCs_at L (i := i) (by omega)
  have q0 := (hc 0 (by decide)).trans hp.1
  have q1 := (hc 1 (by decide)).trans hp.2
  rw [Nat.add_zero] at q0
  clear hc hp s0 hl
  generalize mntA L i = r at *
  obtain ⟨x, y⟩ := r
  dsimp only at q0 q1
  cases x
  · go_enter Try.func74, Try.ntmps74
    go_wp2_with (go_at_call 76; refine (within_any _ _ _ _).mono ?_; rintro e w' ⟨rfl, rfl⟩)
    all_goals (go_ret; refine ⟨ret_bool ?_, ((Below.refl _ _).alloc (Nat.le_refl _) _).alloc (by simp) _⟩)
    all_goals simp [mntOkB, *]
  · go_enter Try.func74, Try.ntmps74
    go_wp2_with (go_at_call 76; refine (within_any _ _ _ _).mono ?_; rintro e w' ⟨rfl, rfl⟩)
    all_goals (go_ret; refine ⟨ret_bool ?_, ((Below.refl _ _).alloc (Nat.le_refl _) _).alloc (by simp) _⟩)
    all_goals simp [mntOkB, *]

set_option maxHeartbeats 1000000 in
theorem besLock_any (L : List Int) (i : Nat) (w : World) (hl : L.length = m3) (s0 : SlV w w.heap.size 1 E3 m3 (lkCs L)) (hi : i < m3) (b0 : m3 ≤ maxLen) :
    Calls Try.prog 75 #[.agg (besC A0 A1 A2 A3 n0 c0 n1 c1 n2 c2 n3 c3 l p t E0 E1 E2 E3 m0 k0 m1 k1 m2 k2 m3 k3 ph co ck bo ba lb gd pr), .int .i64 i] w fun e w' =>
      e = .returned (.bool (lkOkB L i)) ∧ Below w.heap.size w w' := by
  unfold maxLen at b0
  obtain ⟨b, off, rfl, hb, hc⟩ := s0.cell hi
  have q0 := hc 0 (by decide)
  rw [Nat.add_zero, Nat.mul_one, Nat.add_zero, lkCs_at L (i := i) (by omega)] at q0
  have q1 : w.cell? ⟨b, off + (i - 1), none⟩ = some (.int .i64 (lkA L (i - 1))) := by
    obtain ⟨b', off', e, -, hc'⟩ := s0.cell (i := i - 1) (by omega)
    injection e with e
    injection e with e1 e2 _
    subst e1 e2
    have := hc' 0 (by decide)
    rwa [Nat.add_zero, Nat.mul_one, Nat.add_zero, lkCs_at L (i := i - 1) (by omega)] at this
  have HOK : Hid (lkOkB L i = (inB (lkA L i) 0 7 && (decide (i = 0) || decide (lkA L (i - 1) < lkA L i)))) := Lib.hid rfl
  clear hc s0 hl
  generalize hx : lkA L i = x at *
  generalize hy : lkA L (i - 1) = y at *
  clear hx hy
  by_cases hi0 : i = 0
  · subst hi0
    rw [Nat.add_zero] at q0
    go_enter Try.func75, Try.ntmps75
    go_wp2_with (go_at_call 33; refine (isIndex_any _ _ _).mono ?_; rintro e w' ⟨rfl, rfl⟩)
    all_goals (go_ret; refine ⟨ret_bool ?_, (Below.refl _ _).alloc (Nat.le_refl _) _⟩)
    all_goals (rw [HOK.out]; simp [*])
  · have hpos : (0 : Int) < (i : Int) := by omega
    have hposN : 0 < i := by omega
    have hi1 : ((i : Int) - 1) = ((i - 1 : Nat) : Int) := by omega
    by_cases hxy : y < x
    · go_enter Try.func75, Try.ntmps75
      go_wp2_with (go_at_call 33; refine (isIndex_any _ _ _).mono ?_; rintro e w' ⟨rfl, rfl⟩)
      all_goals (go_ret; refine ⟨ret_bool ?_, (Below.refl _ _).alloc (Nat.le_refl _) _⟩)
      all_goals (rw [HOK.out]; simp [*])
    · have hle : x ≤ y := by omega
      go_enter Try.func75, Try.ntmps75
      go_wp2_with (go_at_call 33; refine (isIndex_any _ _ _).mono ?_; rintro e w' ⟨rfl, rfl⟩)
      all_goals (go_ret; refine ⟨ret_bool ?_, (Below.refl _ _).alloc (Nat.le_refl _) _⟩)
      all_goals (rw [HOK.out]; simp [*])
end
end Go.Proofs.Ytlmjjkljkmalpaa
