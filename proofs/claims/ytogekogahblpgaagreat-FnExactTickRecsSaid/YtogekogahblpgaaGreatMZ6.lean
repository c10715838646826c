/-
  The program's StateOk: a state laid beside its plan.
-/
import Derived.Test.YtogekogahblpgaaGreatMZ5
import Derived.Test.YtogekogahblpgaaGreatMZxUh
import Derived.Test.YtogekogahblpgaaGreatMZxPd
import Derived.Deep.DeepCutAuto
import Derived.Test.YtogekogahblpgaaGreatMZ1
import Derived.Test.YtogekogahblpgaaGreatMZ3
import Derived.Test.YtogekogahblpgaaGreatMZ0
import Derived.Laws.Tables
import Derived.Laws.CopyOwn
/- Ur -/
set_option linter.unusedVariables false
namespace Go.Proofs.YtogekogahblpgaaGreat
open Go.RowKit

end Go.Proofs.YtogekogahblpgaaGreat
/- Us -/
set_option linter.unusedVariables false
namespace Go.Proofs.YtogekogahblpgaaGreat
open Go.RowKit

theorem three (w : World) (o o' o'' : Obj) : Below w.heap.size w (((w.alloc o).alloc o').alloc o'') := (((Below.refl _ _).alloc (Nat.le_refl _) _).alloc (by simp) _).alloc (by simp; omega) _
/-- The blocks of a state's lists. -/
def rowsOf (v : Value) (g : Nat) : Prop := ∃ (cs : Array Value) (i : Nat) (u : Value), v = .agg cs ∧ cs[i]? = some u ∧ u.ownBlock = some g
theorem OwnSt.blocks {w : World} {B : Nat} {v : Value} {s : StD} (h : OwnSt w B v s) {g : Nat} (hg : rowsOf v g) : B ≤ g ∧ g < w.heap.size := by
  obtain ⟨v0, v1, v2, v3, rfl, h0, h1, h2, h3⟩ := h.it
  obtain ⟨cs, i, u, hv, hc, hu⟩ := hg
  injection hv with hv
  subst hv
  match i, hc with
  | 0, hc => cases hc; cases hu
  | 1, hc => cases hc; cases hu
  | 2, hc => cases hc; cases hu
  | 3, hc => cases hc; cases hu
  | 4, hc => cases hc; cases hu
  | 5, hc => cases hc; cases hu
  | 6, hc => cases hc; exact h0.lt g hu
  | 7, hc => cases hc; exact h1.lt g hu
  | 8, hc => cases hc; exact h2.lt g hu
  | 9, hc => cases hc; exact h3.lt g hu
  | 10, hc => cases hc; cases hu
  | 11, hc => cases hc; cases hu
  | k + 12, hc => simp at hc
end Go.Proofs.YtogekogahblpgaaGreat
/- Ut -/
set_option linter.unusedVariables false
namespace Go.Proofs.YtogekogahblpgaaGreat
open Go.RowKit

end Go.Proofs.YtogekogahblpgaaGreat
/- Uu -/
set_option linter.unusedVariables false
namespace Go.Proofs.YtogekogahblpgaaGreat
open Go.RowKit

end Go.Proofs.YtogekogahblpgaaGreat
/- Uo -/
set_option linter.unusedVariables false
namespace Go.Proofs.YtogekogahblpgaaGreat
open Go.RowKit

theorem alive_any (x : Int) (w : World) : Calls Tryz.prog 83 #[.int .i64 x] w fun e w' => e = .returned (.bool (aliveB x)) ∧ w = w' := by
  go_enter Tryz.func83, Tryz.ntmps83
  go_wp2_with fail
  refine (in_any _ _ _ _).mono ?_
  rintro e w' ⟨rfl, rfl⟩
  go_wp2
  go_ret
  exact ⟨rfl, rfl⟩

theorem alloc_here {W : World} {o : Obj} {g : Nat} (hg : W.heap.size = g) : (W.alloc o).heap[g]? = some o := by
  subst hg
  exact heap_alloc_new W o
theorem alloc_there {W : World} {o : Obj} {g : Nat} (hg : g < W.heap.size) : (W.alloc o).heap[g]? = W.heap[g]? := ((Below.refl W.heap.size W).alloc (Nat.le_refl _) o).block g hg

theorem own_of_heap {w : World} {B e k n g : Nat} {xs : List Value} {cur : Array Value} (hh : w.heap[g]? = some (.cells cur e)) (hc : cur = xs.toArray) (hl : xs.length = n * k) (hb : B ≤ g) (hn : n ≤ maxLen) :
    w.ownsRow B e k (.slice (some ⟨g, 0, none⟩) n n) n xs := ⟨hl, .inr ⟨g, n, cur, rfl, hb, hh, Nat.le_refl _, hn, by subst hc; simp [hl], by subst hc; simp [← hl]⟩⟩
/-- A new state being made. -/
structure NewB (w wr : World) (g0 g1 g2 g3 n0 n2 n3 : Nat) (L1 : List (Bool × Int)) (L2 : List Bool) : Prop where
  l1 : L1.length = n2
  l2 : L2.length = n3
  S : Own w wr g3 (stC (some ⟨g0, 0, none⟩) (some ⟨g1, 0, none⟩) (some ⟨g2, 0, none⟩) none n0 n0 n2 n2 n3 n3 0 0 0 false 0 0 0 0 0 0)
  O : Own w wr (w.heap.size + 1) (stC none none none none 0 0 0 0 0 0 0 0 0 false 0 0 0 0 0 0)
  r0 : wr.ownsRow (w.heap.size + 2) 109 2 (.slice (some ⟨g0, 0, none⟩) n0 n0) n0 (podCs (List.replicate n0 (0, 0)))
  r1 : wr.ownsRow (w.heap.size + 2) 113 2 (.slice (some ⟨g1, 0, none⟩) n2 n2) n2 (mntCs L1)
  r2 : wr.ownsRow (w.heap.size + 2) 4 1 (.slice (some ⟨g2, 0, none⟩) n3 n3) n3 (devCs L2)
theorem NewB.step {w wr w2 : World} {g0 g1 g2 g3 n0 n2 n3 : Nat} {L1 : List (Bool × Int)} {L2 : List Bool} (h : NewB w wr g0 g1 g2 g3 n0 n2 n3 L1 L2) (hb : Below wr.heap.size wr w2) : NewB w w2 g0 g1 g2 g3 n0 n2 n3 L1 L2 :=
  ⟨h.l1, h.l2, h.S.step hb, h.O.step hb, ownsRow_below h.r0 hb, ownsRow_below h.r1 hb, ownsRow_below h.r2 hb⟩
end Go.Proofs.YtogekogahblpgaaGreat
/- Wb -/
set_option linter.unusedVariables false
namespace Go.Proofs.YtogekogahblpgaaGreat
open Go.RowKit

theorem ownsRow_keeps {S : Nat → Prop} {w w' : World} {B e k n : Nat} {v : Value} {xs : List Value} (h : w.ownsRow B e k v n xs) (kp : Keeps S w w') (hn : ∀ r, v.ownBlock = some r → ¬ S r) : w'.ownsRow B e k v n xs := by
  refine ⟨h.1, h.2.imp id ?_⟩
  rintro ⟨g, cap, cur, hv, hb', hh, rest⟩
  exact ⟨g, cap, cur, hv, hb', (kp.block g (Array.getElem?_eq_some_iff.1 hh).1 (hn g (by rw [hv]; rfl))).trans hh, rest⟩
theorem OwnSt.keeps {S : Nat → Prop} {w w' : World} {B : Nat} {v : Value} {s : StD} (h : OwnSt w B v s) (kp : Keeps S w w') (hn : ∀ g, rowsOf v g → ¬ S g) : OwnSt w' B v s := by
  obtain ⟨v0, v1, v2, v3, rfl, h0, h1, h2, h3⟩ := h.it
  exact ⟨v0, v1, v2, v3, rfl, ownsRow_keeps h0 kp fun r hr => hn r ⟨_, 6, v0, rfl, rfl, hr⟩, ownsRow_keeps h1 kp fun r hr => hn r ⟨_, 7, v1, rfl, rfl, hr⟩, ownsRow_keeps h2 kp fun r hr => hn r ⟨_, 8, v2, rfl, rfl, hr⟩, ownsRow_keeps h3 kp fun r hr => hn r ⟨_, 9, v3, rfl, rfl, hr⟩⟩

/-- A box of a state, the call's own. -/
def BoxS (w : World) (B g : Nat) (xs : List Value) : Prop := w.ownsRow B 47 12 (.slice (some ⟨g, 0, none⟩) 1 1) 1 xs
theorem BoxS.new {W : World} {B g : Nat} {cs : Array Value} (hg : W.heap.size = g) (hB : B ≤ W.heap.size) (hl : cs.size = 12) : BoxS (W.alloc (.cells cs 47)) B g cs.toList := by
  subst hg
  exact own_of_heap (cur := cs) (heap_alloc_new W _) (by simp) (by simp [hl]) hB (by unfold maxLen; decide)
theorem BoxS.at_ {w : World} {B g : Nat} {xs : List Value} (h : BoxS w B g xs) (o : Nat) (ho : o < 12) : w.cell? ⟨g, o, none⟩ = xs[o]? := World.ownsRow.cellAt h o (by omega)
theorem BoxS.C {w : World} {B g : Nat} {cs : Array Value} (h : BoxS w B g cs.toList) : ∀ o, w.cell? ⟨g, o, none⟩ = cs[o]? := by
  intro o
  obtain ⟨hl, ⟨hv, _⟩ | ⟨g', cap, cur, hv, hb, hh, hnc, hcm, hsz, ht⟩⟩ := id h
  · cases hv
  · injection hv with h1 h2 h3
    injection h1 with h1
    injection h1 with h1 _ _
    subst h1 h3
    by_cases ho : o < 12
    · rw [h.at_ o ho, Array.getElem?_toList]
    · rw [cell_of_row _ _ _ _ _ _ hh, Array.getElem?_eq_none (by omega), Array.getElem?_eq_none (by simpa using (by omega : cs.toList.length ≤ o))]
theorem BoxS.frozen {w : World} {B g : Nat} {xs : List Value} (h : BoxS w B g xs) (o : Nat) : w.frozen? ⟨g, o, none⟩ = false := World.ownsRow.frozenAt h o
theorem BoxS.lt {w : World} {B g : Nat} {xs : List Value} (h : BoxS w B g xs) : B ≤ g ∧ g < w.heap.size := World.ownsRow.lt h g rfl
theorem BoxS.go {w w' : World} {B g : Nat} {xs : List Value} (h : BoxS w B g xs) (hb : Below w.heap.size w w') : BoxS w' B g xs := ownsRow_below h hb
theorem BoxS.keeps {S : Nat → Prop} {w w' : World} {B g : Nat} {xs : List Value} (h : BoxS w B g xs) (kp : Keeps S w w') (hn : ¬ S g) : BoxS w' B g xs := ownsRow_keeps h kp fun r hr => by
  obtain rfl : g = r := by simpa [Value.ownBlock] using hr
  exact hn
theorem OwnSt.apart {w : World} {B B' g : Nat} {v : Value} {s : StD} {xs : List Value} (h : OwnSt w B v s) (hb : BoxS w B' g xs) : ¬ rowsOf v g := by
  obtain ⟨v0, v1, v2, v3, rfl, h0, h1, h2, h3⟩ := h.it
  rintro ⟨cs, i, u, hv, hc, hu⟩
  injection hv with hv
  subst hv
  match i, hc with
  | 0, hc => cases hc; cases hu
  | 1, hc => cases hc; cases hu
  | 2, hc => cases hc; cases hu
  | 3, hc => cases hc; cases hu
  | 4, hc => cases hc; cases hu
  | 5, hc => cases hc; cases hu
  | 6, hc => cases hc; exact absurd (row_type h0 hb hu rfl) (by decide)
  | 7, hc => cases hc; exact absurd (row_type h1 hb hu rfl) (by decide)
  | 8, hc => cases hc; exact absurd (row_type h2 hb hu rfl) (by decide)
  | 9, hc => cases hc; exact absurd (row_type h3 hb hu rfl) (by decide)
  | 10, hc => cases hc; cases hu
  | 11, hc => cases hc; cases hu
  | k + 12, hc => simp at hc
section
variable (W : World) (g : Nat) (y0 y1 y2 y3 y4 y5 y6 y7 y8 y9 ya yb : Value)
/-- The world with twelve cells of block g set. -/
abbrev put12 : World := (((((((((((W.setCell ⟨g, 0, none⟩ y0).setCell ⟨g, 1, none⟩ y1).setCell ⟨g, 2, none⟩ y2).setCell ⟨g, 3, none⟩ y3).setCell ⟨g, 4, none⟩ y4).setCell ⟨g, 5, none⟩ y5).setCell ⟨g, 6, none⟩ y6).setCell ⟨g, 7, none⟩ y7).setCell ⟨g, 8, none⟩ y8).setCell ⟨g, 9, none⟩ y9).setCell ⟨g, 10, none⟩ ya).setCell ⟨g, 11, none⟩ yb
end
theorem BoxS.put {W : World} {B g : Nat} {x0 x1 x2 x3 x4 x5 x6 x7 x8 x9 xa xb : Value} (h : BoxS W B g [x0, x1, x2, x3, x4, x5, x6, x7, x8, x9, xa, xb]) (y0 y1 y2 y3 y4 y5 y6 y7 y8 y9 ya yb : Value) :
    BoxS (put12 W g y0 y1 y2 y3 y4 y5 y6 y7 y8 y9 ya yb) B g [y0, y1, y2, y3, y4, y5, y6, y7, y8, y9, ya, yb] := by
  have h0 := (World.ownsRow.stored h 0 y0).1
  have h1 := (World.ownsRow.stored h0 1 y1).1
  have h2 := (World.ownsRow.stored h1 2 y2).1
  have h3 := (World.ownsRow.stored h2 3 y3).1
  have h4 := (World.ownsRow.stored h3 4 y4).1
  have h5 := (World.ownsRow.stored h4 5 y5).1
  have h6 := (World.ownsRow.stored h5 6 y6).1
  have h7 := (World.ownsRow.stored h6 7 y7).1
  have h8 := (World.ownsRow.stored h7 8 y8).1
  have h9 := (World.ownsRow.stored h8 9 y9).1
  have ha := (World.ownsRow.stored h9 10 ya).1
  exact (World.ownsRow.stored ha 11 yb).1
end Go.Proofs.YtogekogahblpgaaGreat
/- Wd -/
set_option linter.unusedVariables false
namespace Go.Proofs.YtogekogahblpgaaGreat
open Go.RowKit

set_option maxHeartbeats 1000000 in
theorem podStep_any (gr ba grace hook st since clock : Int) (w : World) (h0 : 0 ≤ since ∧ since ≤ 1000000) (h1 : 0 ≤ clock ∧ clock ≤ 1000001) :
    Calls Tryz.prog 84 #[.agg #[.int .i64 gr, .int .i64 ba, .int .i64 grace, .int .i64 hook], .agg #[.int .i64 st, .int .i64 since], .int .i64 clock] w fun e w' =>
      e = .returned (.int .i64 (podStep hook grace (st, since) clock)) ∧ Below w.heap.size w w' := by
  have HH : Hid (podStep hook grace (st, since) clock = if st = 0 then (if 0 < hook then 1 else 2) else if st = 1 then (if hook ≤ clock - since then 2 else 1) else if st = 2 then (if grace ≤ clock - since then 3 else 2) else if st = 3 then 4 else st) := Lib.hid rfl
  generalize podStep hook grace (st, since) clock = ans at HH
  have K2 : Below w.heap.size w ((w.alloc (.cells #[.int .i64 gr, .int .i64 ba, .int .i64 grace, .int .i64 hook] 97)).alloc (.cells #[.int .i64 st, .int .i64 since] 109)) := ((Below.refl _ _).alloc (Nat.le_refl _) _).alloc (by simp) _
  by_cases e0 : st = 0
  · subst e0
    by_cases e1 : 0 < hook
    · go_enter Tryz.func84, Tryz.ntmps84
      go_wp2
      all_goals (go_ret; exact ⟨by rw [HH.out]; simp [*], K2⟩)
    · go_enter Tryz.func84, Tryz.ntmps84
      go_wp2
      all_goals (go_ret; exact ⟨by rw [HH.out]; simp [*], K2⟩)
  · by_cases e1 : st = 1
    · subst e1
      by_cases e2 : hook ≤ clock - since
      · go_enter Tryz.func84, Tryz.ntmps84
        go_wp2
        all_goals (go_ret; exact ⟨by rw [HH.out]; simp [*], K2⟩)
      · go_enter Tryz.func84, Tryz.ntmps84
        go_wp2
        all_goals (go_ret; exact ⟨by rw [HH.out]; simp [*], K2⟩)
    · by_cases e2 : st = 2
      · subst e2
        by_cases e3 : grace ≤ clock - since
        · go_enter Tryz.func84, Tryz.ntmps84
          go_wp2
          all_goals (go_ret; exact ⟨by rw [HH.out]; simp [*], K2⟩)
        · go_enter Tryz.func84, Tryz.ntmps84
          go_wp2
          all_goals (go_ret; exact ⟨by rw [HH.out]; simp [*], K2⟩)
      · by_cases e3 : st = 3
        · subst e3
          go_enter Tryz.func84, Tryz.ntmps84
          go_wp2
          all_goals (go_ret; exact ⟨by rw [HH.out]; simp [*], K2⟩)
        · go_enter Tryz.func84, Tryz.ntmps84
          go_wp2
          all_goals (go_ret; exact ⟨by rw [HH.out]; simp [*], K2⟩)

/-- Records and a code: what is planned. -/
def RecsA (w : World) (a : List RecD × Int) (e : Ending) (w' : World) : Prop := ∃ v, e = .returned (.tuple #[v, .int .i64 a.2]) ∧ OR w' w.heap.size v a.1 ∧ Below w.heap.size w w'
theorem RecsA.back {w w1 w2 : World} {a : List RecD × Int} {e : Ending} (h : RecsA w1 a e w2) (K : Below w.heap.size w w1) : RecsA w a e w2 := by
  obtain ⟨v, he, ho, hb⟩ := h
  exact ⟨v, he, ho.base K.size, K.trans (hb.mono K.size)⟩
theorem OR.first {w : World} {B : Nat} (hB : B ≤ w.heap.size) (k a b : Int) : OR (w.alloc (.cells #[.int .i64 k, .int .i64 a, .int .i64 b] 77)) B (.slice (some ⟨w.heap.size, 0, none⟩) 1 1) [⟨k, a, b⟩] :=
  own_of_heap (heap_alloc_new w _) rfl rfl hB (by unfold maxLen; decide)
theorem l10No_any (c : Int) (w : World) : Calls Tryz.prog 25 #[.int .i64 c] w (RecsA w (noR c)) := by
  go_enter Tryz.func25, Tryz.ntmps25
  go_wp2
  go_ret2
  exact ⟨_, rfl, OR.empty (Nat.le_refl _), (Below.refl _ _).alloc (Nat.le_refl _) _⟩
end Go.Proofs.YtogekogahblpgaaGreat
/- Vc -/
set_option linter.unusedVariables false
namespace Go.Proofs.YtogekogahblpgaaGreat
open Go.RowKit

theorem aliveB_no {x : Int} (h0 : ¬ x = 0) (h1 : ¬ x = 1) (h2 : ¬ x = 2) (h3 : ¬ x = 3) : aliveB x = false := by
  rw [Bool.eq_false_iff]
  intro h
  rw [aliveB, inB_true] at h
  omega
set_option maxHeartbeats 1000000 in
theorem implAlive_any (x : Int) (w : World) : Calls Tryz.prog 104 #[.int .i64 x] w fun e w' => e = .returned (.bool (aliveB x)) ∧ w = w' := by
  by_cases h0 : x = 0
  · subst h0
    go_enter Tryz.func104, Tryz.ntmps104
    go_wp2
    all_goals (go_ret; exact ⟨ret_bool (by decide), rfl⟩)
  · by_cases h1 : x = 1
    · subst h1
      go_enter Tryz.func104, Tryz.ntmps104
      go_wp2
      all_goals (go_ret; exact ⟨ret_bool (by decide), rfl⟩)
    · by_cases h2 : x = 2
      · subst h2
        go_enter Tryz.func104, Tryz.ntmps104
        go_wp2
        all_goals (go_ret; exact ⟨ret_bool (by decide), rfl⟩)
      · by_cases h3 : x = 3
        · subst h3
          go_enter Tryz.func104, Tryz.ntmps104
          go_wp2
          all_goals (go_ret; exact ⟨ret_bool (by decide), rfl⟩)
        · go_enter Tryz.func104, Tryz.ntmps104
          go_wp2
          all_goals (go_ret; exact ⟨ret_bool (by rw [aliveB_no h0 h1 h2 h3]), rfl⟩)

end Go.Proofs.YtogekogahblpgaaGreat
/- Vx -/
set_option linter.unusedVariables false
namespace Go.Proofs.YtogekogahblpgaaGreat
open Go.RowKit

/-- A state beside its plan: its cells. -/
abbrev besC (A0 A1 A2 A3 : Option Addr) (n0 c0 n1 c1 n2 c2 n3 c3 : Nat) (l p t : Int) (E0 E1 E2 E3 : Option Addr) (m0 k0 m1 k1 m2 k2 m3 k3 : Nat) (ph : Int) (co : Bool) (ck bo ba lb gd pr : Int) : Array Value :=
  #[.int .i64 ph, .int .i64 ck, .int .i64 bo, .int .i64 ba, .int .i64 lb, .int .i64 gd, .int .i64 pr,
    .slice A0 n0 c0, .slice A1 n1 c1, .slice A2 n2 c2, .slice A3 n3 c3, .int .i64 l, .int .i64 p, .int .i64 t, .bool co,
    .slice E0 m0 k0, .slice E1 m1 k1, .slice E2 m2 k2, .slice E3 m3 k3]
abbrev cntV (ph ck bo ba lb gd pr : Int) : Value := .agg #[.int .i64 ph, .int .i64 ck, .int .i64 bo, .int .i64 ba, .int .i64 lb, .int .i64 gd, .int .i64 pr]

section
variable (A0 A1 A2 A3 : Option Addr) (n0 c0 n1 c1 n2 c2 n3 c3 : Nat) (l p t : Int) (E0 E1 E2 E3 : Option Addr) (m0 k0 m1 k1 m2 k2 m3 k3 : Nat) (ph : Int) (co : Bool) (ck bo ba lb gd pr : Int)
set_option maxHeartbeats 4000000 in
theorem besidePlan_any (w : World) :
    Calls Tryz.prog 65 #[planV A0 A1 A2 A3 n0 c0 n1 c1 n2 c2 n3 c3 l p t, .agg (stC E0 E1 E2 E3 m0 k0 m1 k1 m2 k2 m3 k3 ph co ck bo ba lb gd pr)] w fun e w' =>
      e = .returned (.agg (besC A0 A1 A2 A3 n0 c0 n1 c1 n2 c2 n3 c3 l p t E0 E1 E2 E3 m0 k0 m1 k1 m2 k2 m3 k3 ph co ck bo ba lb gd pr)) ∧ Below w.heap.size w w' := by
  have T0 := Two.start w (planC A0 A1 A2 A3 n0 c0 n1 c1 n2 c2 n3 c3 l p t) (stC E0 E1 E2 E3 m0 k0 m1 k1 m2 k2 m3 k3 ph co ck bo ba lb gd pr) 42 47
  go_enter Tryz.func65, Tryz.ntmps65
  go_upto_region 1 with fail
  have X := Own.box2 T0.O.K (besC none none none none 0 0 0 0 0 0 0 0 0 0 0 none none none none 0 0 0 0 0 0 0 0 0 false 0 0 0 0 0 0) 119
  have T := T0.step ((Below.refl _ _).alloc (Nat.le_refl _) (.cells (besC none none none none 0 0 0 0 0 0 0 0 0 0 0 none none none none 0 0 0 0 0 0 0 0 0 false 0 0 0 0 0 0) 119))
  have hH := heap_alloc_new ((w.alloc (.cells (planC A0 A1 A2 A3 n0 c0 n1 c1 n2 c2 n3 c3 l p t) 42)).alloc (.cells (stC E0 E1 E2 E3 m0 k0 m1 k1 m2 k2 m3 k3 ph co ck bo ba lb gd pr) 47)) (.cells (besC none none none none 0 0 0 0 0 0 0 0 0 0 0 none none none none 0 0 0 0 0 0 0 0 0 false 0 0 0 0 0 0) 119)
  clear T0
  have hC := T.A.C
  have hD := T.O.C
  have K := X.K
  clear T X
  simp only [heap_size_alloc_] at *
  generalize hW : ((w.alloc _).alloc _).alloc _ = W at *
  clear hW
  have hi : (Tryz.prog.info? 119).map (·.size) = some (besC A0 A1 A2 A3 n0 c0 n1 c1 n2 c2 n3 c3 l p t E0 E1 E2 E3 m0 k0 m1 k1 m2 k2 m3 k3 ph co ck bo ba lb gd pr).size := by kernel_rfl
  have h1 : (besC A0 A1 A2 A3 n0 c0 n1 c1 n2 c2 n3 c3 l p t E0 E1 E2 E3 m0 k0 m1 k1 m2 k2 m3 k3 ph co ck bo ba lb gd pr).all (·.oneCell') = true := by simp [Value.oneCell']
  go_wp2_with (refine wpList_store_row rfl _ _ _ rfl (w.heap.size + 1 + 1) (besC A0 A1 A2 A3 n0 c0 n1 c1 n2 c2 n3 c3 l p t E0 E1 E2 E3 m0 k0 m1 k1 m2 k2 m3 k3 ph co ck bo ba lb gd pr) rfl rfl _ _ hH hi rfl h1 ?_)
  exact bodyPost_ret (v := .agg (besC A0 A1 A2 A3 n0 c0 n1 c1 n2 c2 n3 c3 l p t E0 E1 E2 E3 m0 k0 m1 k1 m2 k2 m3 k3 ph co ck bo ba lb gd pr)) (results_cell_row Tryz.results65 _ _ _ _ _ _ _ rfl (setRow_heap W _ _ _ _ _ hH) Tryz.underlying119 rfl hi) rfl ⟨rfl, below_setRow K (by omega) _⟩
end
end Go.Proofs.YtogekogahblpgaaGreat
