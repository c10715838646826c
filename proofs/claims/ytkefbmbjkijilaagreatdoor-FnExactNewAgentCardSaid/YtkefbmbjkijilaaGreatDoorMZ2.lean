/-
  From the shutting on: what holds at every time, and that a tick is one less of the time that is left.
-/
import Derived.Test.YtkefbmbjkijilaaGreatDoorMZ0
import Derived.Test.YtkefbmbjkijilaaGreatDoorMZ1
import Derived.RegionTactic
import Derived.BigRegion
import Derived.StillTailTactics
import Derived.Deep.AppendLies
import Derived.Deep.RegionLaw
import Derived.Deep.DeepCutAuto
import Derived.ProofKit
import Derived.Deep.Slices
import Derived.Deep.Fields
import Derived.ChangeSame
import Derived.JoinedOf
/- Pr -/
set_option linter.unusedVariables false
namespace Go.Proofs.YtkefbmbjkijilaaGreatDoor
open Go.RowKit
end Go.Proofs.YtkefbmbjkijilaaGreatDoor
/- Ps -/
set_option linter.unusedVariables false
namespace Go.Proofs.YtkefbmbjkijilaaGreatDoor
open Go.RowKit
def zeroC : Array Value := planC none none none none 0 0 0 0 0 0 0 0 0 0 0
/-- A plan under way in block P, beside the cursor g; R is where the answer will lie. -/
structure Bld (T : TypeId) (kd : IntKind) (w W : World) (g R P : Nat) (cs : Array Value) (v0 v1 v2 v3 : Value) (n0 n1 n2 n3 : Nat) (x0 x1 x2 x3 : Nat → Int) : Prop where
  cur : Cur T kd W g
  keep : Keeps (· = g) w W
  old : g < w.heap.size
  pl : W.heap[P]? = some (.cells cs 42 (0, 0))
  pge : w.heap.size ≤ P
  rl : W.heap[R]? = some (.cells zeroC 42 (0, 0))
  rge : w.heap.size ≤ R
  rp : R ≠ P
  o0 : OI W w.heap.size 119 4 v0 n0 x0
  o1 : OI W w.heap.size 2 1 v1 n1 x1
  o2 : OI W w.heap.size 123 2 v2 n2 x2
  o3 : OI W w.heap.size 127 1 v3 n3 x3

section
variable {T : TypeId} {kd : IntKind} {w W W' : World} {g R P : Nat} {cs : Array Value} {v0 v1 v2 v3 : Value} {n0 n1 n2 n3 : Nat} {x0 x1 x2 x3 : Nat → Int}
def apart (T : TypeId) : Prop := T ≠ 42 ∧ T ≠ 119 ∧ T ≠ 2 ∧ T ≠ 123 ∧ T ≠ 127
theorem Cur.head {T : TypeId} {k : IntKind} {w : World} {g : Nat} (h : Cur T k w g) : ∃ cs, w.heap[g]? = some (.cells cs T (0, 0)) := by
  obtain ⟨A, n, c, i, hh, hg, _⟩ := h
  exact ⟨_, hg⟩
theorem Bld.cell (h : Bld T kd w W g R P cs v0 v1 v2 v3 n0 n1 n2 n3 x0 x1 x2 x3) (o : Nat) : W.cell? ⟨P, o, none⟩ = cs[o]? := cell_of_row W P o cs _ _ h.pl
theorem Bld.frozen (h : Bld T kd w W g R P cs v0 v1 v2 v3 n0 n1 n2 n3 x0 x1 x2 x3) (o : Nat) : W.frozen? ⟨P, o, none⟩ = false := frozen_of_row W P o cs _ h.pl
theorem Bld.lt (h : Bld T kd w W g R P cs v0 v1 v2 v3 n0 n1 n2 n3 x0 x1 x2 x3) : P < W.heap.size := (Array.getElem?_eq_some_iff.1 h.pl).1
theorem Bld.rlt (h : Bld T kd w W g R P cs v0 v1 v2 v3 n0 n1 n2 n3 x0 x1 x2 x3) : R < W.heap.size := (Array.getElem?_eq_some_iff.1 h.rl).1
theorem Bld.draw (h : Bld T kd w W g R P cs v0 v1 v2 v3 n0 n1 n2 n3 x0 x1 x2 x3) (hT : apart T) (hk : Keeps (· = g) W W') (hc : Cur T kd W' g) : Bld T kd w W' g R P cs v0 v1 v2 v3 n0 n1 n2 n3 x0 x1 x2 x3 := by
  obtain ⟨ds, hg⟩ := h.cur.head
  have hPg : ¬ P = g := fun e => by
    have := h.pl
    rw [e, hg] at this
    injection this with this
    injection this with _ ht
    exact hT.1 ht
  have hRg : ¬ R = g := fun e => by
    have := h.rl
    rw [e, hg] at this
    injection this with this
    injection this with _ ht
    exact hT.1 ht
  exact ⟨hc, h.keep.trans hk, h.old, (hk.block P h.lt hPg).trans h.pl, h.pge, (hk.block R h.rlt hRg).trans h.rl, h.rge, h.rp, h.o0.keeps hk hg hT.2.1, h.o1.keeps hk hg hT.2.2.1, h.o2.keeps hk hg hT.2.2.2.1, h.o3.keeps hk hg hT.2.2.2.2⟩
theorem Bld.below (h : Bld T kd w W g R P cs v0 v1 v2 v3 n0 n1 n2 n3 x0 x1 x2 x3) (hb : Below W.heap.size W W') : Bld T kd w W' g R P cs v0 v1 v2 v3 n0 n1 n2 n3 x0 x1 x2 x3 :=
  ⟨h.cur.below hb, h.keep.trans (Keeps.of_below hb), h.old, (hb.block P h.lt).trans h.pl, h.pge, (hb.block R h.rlt).trans h.rl, h.rge, h.rp, h.o0.below hb, h.o1.below hb, h.o2.below hb, h.o3.below hb⟩
theorem Bld.alloc (h : Bld T kd w W g R P cs v0 v1 v2 v3 n0 n1 n2 n3 x0 x1 x2 x3) (o : Obj) : Bld T kd w (W.alloc o) g R P cs v0 v1 v2 v3 n0 n1 n2 n3 x0 x1 x2 x3 := h.below ((Below.refl _ _).alloc (Nat.le_refl _) o)
theorem Bld.drew (h : Bld T kd w W g R P cs v0 v1 v2 v3 n0 n1 n2 n3 x0 x1 x2 x3) : Bld T kd w W.drew g R P cs v0 v1 v2 v3 n0 n1 n2 n3 x0 x1 x2 x3 := h.below (Below.refl _ _).drew
theorem OI.setP {e k n : Nat} {B : Nat} {v : Value} {x : Nat → Int} (h : OI W B e k v n x) (hP : W.heap[P]? = some (.cells cs 42 (0, 0))) (hne : (42 : Nat) ≠ e) (i : Nat) (u : Value) : OI (W.setCell ⟨P, i, none⟩ u) B e k v n x :=
  h.keeps ((Keeps.refl (· = P) W).set (p := ⟨P, i, none⟩) rfl u) hP hne
theorem Bld.store (h : Bld T kd w W g R P cs v0 v1 v2 v3 n0 n1 n2 n3 x0 x1 x2 x3) (hT : apart T) (i : Nat) (u : Value) : Bld T kd w (W.setCell ⟨P, i, none⟩ u) g R P (cs.setIfInBounds i u) v0 v1 v2 v3 n0 n1 n2 n3 x0 x1 x2 x3 := by
  have hP := h.pl
  have hold := h.old
  have hge := h.pge
  have hk : Keeps (· = P) W (W.setCell ⟨P, i, none⟩ u) := (Keeps.refl (· = P) W).set (p := ⟨P, i, none⟩) rfl u
  refine ⟨h.cur.keeps hk (fun b hb e => by have e : b = P := e; omega), ?_, hold, heap_setCell_same W P i cs _ u hP, hge, (hk.block R h.rlt h.rp).trans h.rl, h.rge, h.rp, h.o0.setP hP (by decide) i u, h.o1.setP hP (by decide) i u, h.o2.setP hP (by decide) i u, h.o3.setP hP (by decide) i u⟩
  have hk0 := h.keep
  exact ⟨hk.os.trans hk0.os, hk.tape.trans hk0.tape, hk.output.trans hk0.output, Nat.le_trans hk0.size hk.size, fun b hb hn => (hk.block b (Nat.lt_of_lt_of_le hb hk0.size) (fun e => by have e : b = P := e; omega)).trans (hk0.block b hb hn)⟩
/-- What grows is one of the call's own rows: cursor, plan, what was there stay. -/
theorem Bld.base (h : Bld T kd w W g R P cs v0 v1 v2 v3 n0 n1 n2 n3 x0 x1 x2 x3) {e k n : Nat} {v : Value} {x : Nat → Int} (ho : OI W w.heap.size e k v n x) (hT : T ≠ e) (hP : (42 : Nat) ≠ e) (hg : W.grownBy W' v.ownBlock) :
    Cur T kd W' g ∧ Keeps (· = g) w W' ∧ W'.heap[P]? = some (.cells cs 42 (0, 0)) ∧ W'.heap[R]? = some (.cells zeroC 42 (0, 0)) := by
  have hlt := h.cur.lt
  have hold := h.old
  have hr : ∀ r, v.ownBlock = some r → w.heap.size ≤ r := fun r hr => by
    obtain ⟨xs, hown, _⟩ := ho
    exact (hown.lt r hr).1
  have hk : Keeps (fun b => v.ownBlock = some b) W W' := ⟨hg.os, hg.tape, hg.output, hg.size, fun b hb hn => hg.block b hb fun e => hn e.symm⟩
  refine ⟨h.cur.keeps hk (fun b hb e => by have := hr b e; omega), ?_, ?_, ?_⟩
  · have hk0 := h.keep
    exact ⟨hk.os.trans hk0.os, hk.tape.trans hk0.tape, hk.output.trans hk0.output, Nat.le_trans hk0.size hk.size, fun b hb hn => (hk.block b (Nat.lt_of_lt_of_le hb hk0.size) (fun e => by have := hr b e; omega)).trans (hk0.block b hb hn)⟩
  · refine (hk.block P h.lt fun e => ?_).trans h.pl
    obtain ⟨ds, hb⟩ := ho.block e
    rw [h.pl] at hb
    injection hb with hb
    injection hb with _ ht
    exact hP ht
  · refine (hk.block R h.rlt fun e => ?_).trans h.rl
    obtain ⟨ds, hb⟩ := ho.block e
    rw [h.rl] at hb
    injection hb with hb
    injection hb with _ ht
    exact hP ht
end
section
variable {T : TypeId} {kd : IntKind} {w W : World} {g R P : Nat} {cs : Array Value} {v0 v1 v2 v3 : Value} {n0 n1 n2 n3 : Nat} {x0 x1 x2 x3 : Nat → Int}
variable {ops : Array Oper} {o : Oper} {ac : Act} {K : Act → World → Prop} {Q : Exit → Act → World → Prop} {E : Prop}

end

theorem Bld.start {T : TypeId} {kd : IntKind} {w w2 : World} {g : Nat} (hT : apart T) (hold : g < w.heap.size) (hc : Cur T kd w2 g) (hk : Keeps (· = g) (w.alloc (.cells zeroC 42)) w2) (cs : Array Value) :
    Bld T kd w (w2.alloc (.cells cs 42)) g w.heap.size w2.heap.size cs (.slice none 0 0) (.slice none 0 0) (.slice none 0 0) (.slice none 0 0) 0 0 0 0 (fun _ => 0) (fun _ => 0) (fun _ => 0) (fun _ => 0) := by
  have hs := hk.size
  rw [heap_size_alloc_] at hs
  have hb2 : Below w2.heap.size w2 (w2.alloc (.cells cs 42)) := (Below.refl _ _).alloc (Nat.le_refl _) _
  have hb1 : Below w.heap.size w (w.alloc (.cells zeroC 42)) := (Below.refl _ _).alloc (Nat.le_refl _) _
  exact ⟨hc.below hb2, (Keeps.of_below hb1).trans (hk.trans (Keeps.of_below hb2)), hold, heap_alloc_new _ _, by omega,
    (hb2.block _ (by omega)).trans ((hk.block _ (by rw [heap_size_alloc_]; omega) (by show ¬ w.heap.size = g; omega)).trans (heap_alloc_new _ _)), Nat.le_refl _, by omega,
    OI.nil_ _ _ _ _ _, OI.nil_ _ _ _ _ _, OI.nil_ _ _ _ _ _, OI.nil_ _ _ _ _ _⟩
end Go.Proofs.YtkefbmbjkijilaaGreatDoor
/- PsB -/
set_option linter.unusedVariables false
namespace Go.Proofs.YtkefbmbjkijilaaGreatDoor
open Go.RowKit
theorem Bld.out {T : TypeId} {kd : IntKind} {w W W' : World} {g R P : Nat} {cs : Array Value} {v0 v1 v2 v3 : Value} {n0 n1 n2 n3 : Nat} {x0 x1 x2 x3 : Nat → Int} (B : Bld T kd w W g R P cs v0 v1 v2 v3 n0 n1 n2 n3 x0 x1 x2 x3) (hk : Keeps (· = R) W W') :
    OI W' w.heap.size 119 4 v0 n0 x0 ∧ OI W' w.heap.size 2 1 v1 n1 x1 ∧ OI W' w.heap.size 123 2 v2 n2 x2 ∧ OI W' w.heap.size 127 1 v3 n3 x3 ∧ Cur T kd W' g ∧ Keeps (· = g) w W' := by
  have hr := B.rl
  have hge := B.rge
  have hold := B.old
  have hk0 := B.keep
  exact ⟨B.o0.keeps hk hr (by decide), B.o1.keeps hk hr (by decide), B.o2.keeps hk hr (by decide), B.o3.keeps hk hr (by decide), B.cur.keeps hk (fun b hb e => by have e : b = R := e; omega),
    hk.os.trans hk0.os, hk.tape.trans hk0.tape, hk.output.trans hk0.output, Nat.le_trans hk0.size hk.size, fun b hb hn => (hk.block b (Nat.lt_of_lt_of_le hb hk0.size) (fun e => by have e : b = R := e; omega)).trans (hk0.block b hb hn)⟩
end Go.Proofs.YtkefbmbjkijilaaGreatDoor
/- PwA -/
set_option linter.unusedVariables false
namespace Go.Proofs.YtkefbmbjkijilaaGreatDoor
open Go.RowKit
/-- A list of whole numbers, opened. -/
structure Lst (w : World) (v : Value) (L : List Int) : Prop where
  it : ∃ A c, v = .slice A L.length c ∧ Sl w w.heap.size 1 A L.length (fun j => L.getD j 0)
theorem Lst.of {w : World} {B : Nat} {v : Value} {L : List Int} (h : w.ownsRow B 2 1 v L.length (L.map (Value.int .i64))) : Lst w v L := by
  obtain ⟨A, c, g, rfl, hA, _, hz, R⟩ := open_list h
  exact ⟨A, c, rfl, row_sl hA hz R⟩
theorem Lst.go {w w' : World} {v : Value} {L : List Int} (h : Lst w v L) (hb : Below w.heap.size w w') : Lst w' v L := by
  obtain ⟨A, c, rfl, S⟩ := h
  exact ⟨A, c, rfl, (S.below hb (Nat.le_refl _)).more hb.size⟩

end Go.Proofs.YtkefbmbjkijilaaGreatDoor
/- Pk -/
set_option linter.unusedVariables false
namespace Go.Proofs.YtkefbmbjkijilaaGreatDoor
open Go.RowKit

set_option maxHeartbeats 1000000 in
theorem markInt64S_any (A : Option Addr) (n c g : Nat) (k0 : Int) (x : Nat → Int) (w : World) (hA : 0 < n → A = some ⟨g, 0, none⟩) (R : RowF w g n x) (hn : n ≤ 1048576) (h0 : 0 ≤ k0) (h1 : k0 ≤ 8388608) :
    Calls Tryz.prog 48 #[.slice A n c, .int .i64 k0] w fun e w' => e = .returned (.int .i64 (k0 + n)) ∧ RowF w' g n (fun j => k0 + j) ∧ Keeps (· = g) w w' := by
  have HN := Lib.hid hn
  have hn' : n ≤ 2 ^ 63 - 1 := by omega
  have HA := Lib.hid hA
  clear hn hA
  go_enter Tryz.func48, Tryz.ntmps48
  go_wp2
  go_loopw [1, 5] (fun kk i wr => ∃ m : Nat, m ≤ n ∧ i = .int .i64 m ∧ kk = .int .i64 (k0 + m) ∧ RowF wr g n (fun j => if j < m then k0 + j else x j) ∧ Keeps (· = g) w wr) (fun _ i _ => n - (intOf i).toNat)
  case atStart => exact ⟨0, Nat.zero_le _, rfl, by simp, R.congr fun j _ => by simp, Keeps.refl _ _⟩
  case round =>
    obtain ⟨m, hm, rfl, rfl, Y, K⟩ := hrel
    by_cases hlt : m < n
    · obtain rfl := HA.out (by omega)
      obtain ⟨t0, f0⟩ := Y m hlt
      have hb := HN.out
      go_wp2
      refine ⟨⟨m + 1, by omega, by go_num, by go_num, ?_, K.set rfl _⟩, by simp [intOf]; omega⟩
      refine (Y.set (i := m) (k0 + m)).congr fun j hj => ?_
      by_cases e : j = m
      · subst e; simp
      · simp only [if_neg e]
        by_cases e' : j < m
        · rw [if_pos e', if_pos (by omega)]
        · rw [if_neg e', if_neg (by omega)]
    · obtain rfl : m = n := by omega
      go_wp2
      go_ret
      exact ⟨rfl, Y.congr fun j hj => if_pos hj, K⟩

set_option maxHeartbeats 1000000 in
theorem markPodS_any (A : Option Addr) (n c g : Nat) (k0 : Int) (x : Nat → Int) (w : World) (hA : 0 < n → A = some ⟨g, 0, none⟩) (R : RowF w g (n * 4) x) (hn : n ≤ 1048576) (h0 : 0 ≤ k0) (h1 : k0 ≤ 8388608) :
    Calls Tryz.prog 47 #[.slice A n c, .int .i64 k0] w fun e w' => e = .returned (.int .i64 (k0 + 4 * n)) ∧ Keeps (· = g) w w' := by
  have HN := Lib.hid hn
  have hn' : n ≤ 2 ^ 63 - 1 := by omega
  have HA := Lib.hid hA
  clear hn hA
  go_enter Tryz.func47, Tryz.ntmps47
  go_wp2
  go_loopw [1, 5] (fun kk i wr => ∃ m : Nat, m ≤ n ∧ i = .int .i64 m ∧ kk = .int .i64 (k0 + 4 * m) ∧ Ints wr g (n * 4) ∧ Keeps (· = g) w wr) (fun _ i _ => n - (intOf i).toNat)
  case atStart => exact ⟨0, Nat.zero_le _, rfl, by simp, ⟨x, R⟩, Keeps.refl _ _⟩
  case round =>
    obtain ⟨m, hm, rfl, rfl, Y, K⟩ := hrel
    by_cases hlt : m < n
    · obtain rfl := HA.out (by omega)
      obtain ⟨v0, t0, f0⟩ := Y.at_ (j := m * 4) (by omega)
      obtain ⟨v1, t1, f1⟩ := Y.at_ (j := m * 4 + 1) (by omega)
      obtain ⟨v2, t2, f2⟩ := Y.at_ (j := m * 4 + 2) (by omega)
      obtain ⟨v3, t3, f3⟩ := Y.at_ (j := m * 4 + 3) (by omega)
      have hb := HN.out
      go_wp2
      exact ⟨⟨m + 1, by omega, by go_num, by congr 1; omega, Y.set.set.set.set, (((K.set rfl _).set rfl _).set rfl _).set rfl _⟩, by simp [intOf]; omega⟩
    · obtain rfl : m = n := by omega
      go_wp2
      go_ret
      exact ⟨rfl, K⟩

set_option maxHeartbeats 1000000 in
theorem markMountS_any (A : Option Addr) (n c g : Nat) (k0 : Int) (x : Nat → Int) (w : World) (hA : 0 < n → A = some ⟨g, 0, none⟩) (R : RowF w g (n * 2) x) (hn : n ≤ 1048576) (h0 : 0 ≤ k0) (h1 : k0 ≤ 8388608) :
    Calls Tryz.prog 49 #[.slice A n c, .int .i64 k0] w fun e w' => e = .returned (.int .i64 (k0 + 2 * n)) ∧ Keeps (· = g) w w' := by
  have HN := Lib.hid hn
  have hn' : n ≤ 2 ^ 63 - 1 := by omega
  have HA := Lib.hid hA
  clear hn hA
  go_enter Tryz.func49, Tryz.ntmps49
  go_wp2
  go_loopw [1, 5] (fun kk i wr => ∃ m : Nat, m ≤ n ∧ i = .int .i64 m ∧ kk = .int .i64 (k0 + 2 * m) ∧ Ints wr g (n * 2) ∧ Keeps (· = g) w wr) (fun _ i _ => n - (intOf i).toNat)
  case atStart => exact ⟨0, Nat.zero_le _, rfl, by simp, ⟨x, R⟩, Keeps.refl _ _⟩
  case round =>
    obtain ⟨m, hm, rfl, rfl, Y, K⟩ := hrel
    by_cases hlt : m < n
    · obtain rfl := HA.out (by omega)
      obtain ⟨v0, t0, f0⟩ := Y.at_ (j := m * 2) (by omega)
      obtain ⟨v1, t1, f1⟩ := Y.at_ (j := m * 2 + 1) (by omega)
      have hb := HN.out
      go_wp2
      exact ⟨⟨m + 1, by omega, by go_num, by congr 1; omega, Y.set.set, (K.set rfl _).set rfl _⟩, by simp [intOf]; omega⟩
    · obtain rfl : m = n := by omega
      go_wp2
      go_ret
      exact ⟨rfl, K⟩

set_option maxHeartbeats 1000000 in
theorem markDeviceS_any (A : Option Addr) (n c g : Nat) (k0 : Int) (x : Nat → Int) (w : World) (hA : 0 < n → A = some ⟨g, 0, none⟩) (R : RowF w g (n) x) (hn : n ≤ 1048576) (h0 : 0 ≤ k0) (h1 : k0 ≤ 8388608) :
    Calls Tryz.prog 50 #[.slice A n c, .int .i64 k0] w fun e w' => e = .returned (.int .i64 (k0 + n)) ∧ Keeps (· = g) w w' := by
  have HN := Lib.hid hn
  have hn' : n ≤ 2 ^ 63 - 1 := by omega
  have HA := Lib.hid hA
  clear hn hA
  go_enter Tryz.func50, Tryz.ntmps50
  go_wp2
  go_loopw [1, 5] (fun kk i wr => ∃ m : Nat, m ≤ n ∧ i = .int .i64 m ∧ kk = .int .i64 (k0 + m) ∧ Ints wr g (n) ∧ Keeps (· = g) w wr) (fun _ i _ => n - (intOf i).toNat)
  case atStart => exact ⟨0, Nat.zero_le _, rfl, by simp, ⟨x, R⟩, Keeps.refl _ _⟩
  case round =>
    obtain ⟨m, hm, rfl, rfl, Y, K⟩ := hrel
    by_cases hlt : m < n
    · obtain rfl := HA.out (by omega)
      obtain ⟨v0, t0, f0⟩ := Y.at_ (j := m) (by omega)
      have hb := HN.out
      go_wp2
      exact ⟨⟨m + 1, by omega, by go_num, by congr 1; omega, Y.set, K.set rfl _⟩, by simp [intOf]; omega⟩
    · obtain rfl : m = n := by omega
      go_wp2
      go_ret
      exact ⟨rfl, K⟩

end Go.Proofs.YtkefbmbjkijilaaGreatDoor
/- Ph -/
set_option linter.unusedVariables false
namespace Go.Proofs.YtkefbmbjkijilaaGreatDoor
open Go.ChangeShapes Go.WideShapes Go.ChangeAt Go.RowKit Go.Deep

theorem fields_plan : ∃ fs, Tryz.prog.underlying 27 = some (.struct fs) ∧ oneCellFields Tryz.prog fs = true ∧ Tryz.prog.cellsOf 27 = fs.size ∧ fs.size = 7 ∧
    fs.map (·.type) = #[22, 23, 24, 25, 2, 2, 2] :=
  ⟨_, Tryz.underlying27, by kernel_rfl, by kernel_rfl, by kernel_rfl, by kernel_rfl⟩

theorem fs_pod : ∃ fs, Tryz.prog.underlying 121 = some (.struct fs) ∧ oneCellFields Tryz.prog fs = true ∧ intFields Tryz.prog fs = true ∧ fs.size = 4 := ⟨_, Tryz.underlying121, by kernel_rfl, by kernel_rfl, by kernel_rfl⟩
theorem fs_mount : ∃ fs, Tryz.prog.underlying 125 = some (.struct fs) ∧ oneCellFields Tryz.prog fs = true ∧ intFields Tryz.prog fs = true ∧ fs.size = 2 := ⟨_, Tryz.underlying125, by kernel_rfl, by kernel_rfl, by kernel_rfl⟩
theorem fs_device : ∃ fs, Tryz.prog.underlying 129 = some (.struct fs) ∧ oneCellFields Tryz.prog fs = true ∧ intFields Tryz.prog fs = true ∧ fs.size = 1 := ⟨_, Tryz.underlying129, by kernel_rfl, by kernel_rfl, by kernel_rfl⟩

set_option maxRecDepth 100000 in
theorem open_plan {H : Type} {enc : TypeId × Value → H} {W : World} {spare : Nat → Bool} {held : Bool} {r : Reach} {b0 : Nat} {v : Value} {d : DataW H} {p : List MemPlace}
    (hv : Value.okWide Tryz.prog W r b0 27 v) (h : DataW.Trod enc Tryz.prog W 0 spare held 27 v d p) : ∃ D : PlanD, IsPlan W W.heap.size v D := by
  obtain ⟨fs, hu, hone, hC, h7, hts⟩ := fields_plan
  obtain ⟨cs, rfl, hsz, n, hf⟩ := agg_of_trod hu hone hC hv h
  rw [h7] at hsz
  obtain ⟨f0, j0, t0⟩ := at_of_map hts (j := 0) rfl
  obtain ⟨f1, j1, t1⟩ := at_of_map hts (j := 1) rfl
  obtain ⟨f2, j2, t2⟩ := at_of_map hts (j := 2) rfl
  obtain ⟨f3, j3, t3⟩ := at_of_map hts (j := 3) rfl
  obtain ⟨f4, j4, t4⟩ := at_of_map hts (j := 4) rfl
  obtain ⟨f5, j5, t5⟩ := at_of_map hts (j := 5) rfl
  obtain ⟨f6, j6, t6⟩ := at_of_map hts (j := 6) rfl
  obtain ⟨y0, h0⟩ := hf 0 f0 j0
  obtain ⟨y1, h1⟩ := hf 1 f1 j1
  obtain ⟨y2, h2⟩ := hf 2 f2 j2
  obtain ⟨y3, h3⟩ := hf 3 f3 j3
  obtain ⟨y4, h4⟩ := hf 4 f4 j4
  obtain ⟨y5, h5⟩ := hf 5 f5 j5
  obtain ⟨y6, h6⟩ := hf 6 f6 j6
  rw [t0] at h0
  rw [t1] at h1
  rw [t2] at h2
  rw [t3] at h3
  rw [t4] at h4
  rw [t5] at h5
  rw [t6] at h6
  obtain ⟨ps, ps1, ps2, ps3, ps4⟩ := fs_pod
  obtain ⟨ms, ms1, ms2, ms3, ms4⟩ := fs_mount
  obtain ⟨ds, ds1, ds2, ds3, ds4⟩ := fs_device
  obtain ⟨A0, n0, c0, X0, e0, b0, s0⟩ := sl_structs Tryz.underlying22 ps1 ps2 ps3 (by kernel_rfl) ps4 (by omega) h0
  obtain ⟨A1, n1, c1, X1, e1, b1, s1⟩ := sl_ints Tryz.underlying23 Tryz.underlying2 (by kernel_rfl) h1
  obtain ⟨A2, n2, c2, X2, e2, b2, s2⟩ := sl_structs Tryz.underlying24 ms1 ms2 ms3 (by kernel_rfl) ms4 (by omega) h2
  obtain ⟨A3, n3, c3, X3, e3, b3, s3⟩ := sl_structs Tryz.underlying25 ds1 ds2 ds3 (by kernel_rfl) ds4 (by omega) h3
  obtain ⟨l, e4, _, _⟩ := DataW.trod_int Tryz.underlying2 h4
  obtain ⟨p, e5, _, _⟩ := DataW.trod_int Tryz.underlying2 h5
  obtain ⟨t, e6, _, _⟩ := DataW.trod_int Tryz.underlying2 h6
  injection e4 with e4 _
  injection e5 with e5 _
  injection e6 with e6 _
  refine ⟨⟨n0, n1, n2, n3, X0, X1, X2, X3, l, p, t⟩, ⟨A0, A1, A2, A3, c0, c1, c2, c3, ?_, s0, s1, s2, s3⟩, b0, b1, b2, b3⟩
  congr 1
  apply Array.ext (by simp [hsz])
  intro i hi _
  match i, hi with
  | 0, _ => exact e0
  | 1, _ => exact e1
  | 2, _ => exact e2
  | 3, _ => exact e3
  | 4, _ => exact e4
  | 5, _ => exact e5
  | 6, _ => exact e6
  | k + 7, hi => omega

end Go.Proofs.YtkefbmbjkijilaaGreatDoor
/- Qa -/
set_option linter.unusedVariables false
namespace Go.Proofs.YtkefbmbjkijilaaGreatDoor
open Go.RowKit

/-- The numbers below n at which p is true, rising. -/
def picks (n : Nat) (p : Nat → Bool) : List Int := ((List.range n).filter p).map (fun i : Nat => (i : Int))
def podsL (d : PlanD) (b : Int) : List Int := found d d.n0 (fun i => d.x0 (i * 4 + 1)) b
def hasB (d : PlanD) (b : Nat) : Bool := decide (0 < (podsL d b).length)
def bandsL (d : PlanD) : List Int := picks 6 (hasB d)
def firstOver (l : List Int) (b : Int) : Int := (l.find? (fun x => decide (b < x))).getD (-1)
def nextL (d : PlanD) (b : Int) : Int := firstOver (bandsL d) b
def timeOf (d : PlanD) (i : Nat) : Int := d.x0 (i * 4 + 3) + d.x0 (i * 4 + 2) + 4
def most (d : PlanD) (l : List Int) : Int := l.foldl (fun n i => max n (timeOf d i.toNat)) 0
def bandT (d : PlanD) (b : Int) : Int := if planOkB d then most d (podsL d b) else -1
def sumB : Nat → (Nat → Int) → Int
  | 0, _ => 0
  | k + 1, f => sumB k f + f k
/-- The number ahead of the i-th, -1 ahead of the first. -/
def ahead (l : List Int) (i : Nat) : Int := if i = 0 then -1 else l.getD (i - 1) 0
end Go.Proofs.YtkefbmbjkijilaaGreatDoor
/- Ra -/
set_option linter.unusedVariables false
namespace Go.Proofs.YtkefbmbjkijilaaGreatDoor
open Go.RowKit

/-- A number in 7 bits a byte, the lowest ones first. -/
def putN (n : Nat) : List Nat := if h : n < 128 then [n] else (n % 128 + 128) :: putN (n / 128)
termination_by n
decreasing_by omega
theorem putN_small {n : Nat} (h : n < 128) : putN n = [n] := by rw [putN, dif_pos h]
theorem putN_big {n : Nat} (h : ¬ n < 128) : putN n = (n % 128 + 128) :: putN (n / 128) := by rw [putN, dif_neg h]
/-- The number ahead, and what is behind it. -/
def getN : List Nat → Option (Nat × List Nat)
  | [] => none
  | x :: r => if x < 128 then some (x, r) else match getN r with
    | none => none
    | some (n, r') => if n = 0 then none else some (x - 128 + 128 * n, r')
theorem getN_last {x : Nat} {r : List Nat} (h : x < 128) : getN (x :: r) = some (x, r) := by rw [getN, if_pos h]
theorem getN_more {x n : Nat} {r r' : List Nat} (h : ¬ x < 128) (hr : getN r = some (n, r')) (hn : n ≠ 0) : getN (x :: r) = some (x - 128 + 128 * n, r') := by
  simp [getN, if_neg h, hr, hn]
theorem getN_nought {x : Nat} {r r' : List Nat} (h : ¬ x < 128) (hr : getN r = some (0, r')) : getN (x :: r) = none := by simp [getN, if_neg h, hr]
theorem getN_bad {x : Nat} {r : List Nat} (h : ¬ x < 128) (hr : getN r = none) : getN (x :: r) = none := by simp [getN, if_neg h, hr]
theorem putN_pos (n : Nat) : 0 < (putN n).length := by
  by_cases h : n < 128
  · rw [putN_small h]; simp
  · rw [putN_big h]; simp
theorem putN_length (k n : Nat) : 0 < k → ((putN n).length ≤ k ↔ n < 128 ^ k) := by
  induction k generalizing n with
  | zero => omega
  | succ k ih =>
    intro _
    by_cases h : n < 128
    · rw [putN_small h]
      have : 128 ^ 1 ≤ 128 ^ (k + 1) := Nat.pow_le_pow_right (by omega) (by omega)
      simp
      omega
    · rw [putN_big h, List.length_cons]
      rcases Nat.eq_zero_or_pos k with rfl | hk
      · have := putN_pos (n / 128)
        omega
      · have e := ih (n / 128) hk
        have hp : 128 ^ (k + 1) = 128 ^ k * 128 := Nat.pow_succ ..
        have h2 : n / 128 < 128 ^ k ↔ n < 128 ^ k * 128 := Nat.div_lt_iff_lt_mul (by omega)
        omega
/-- A record's three numbers. -/
structure RecD where
  k : Int
  a : Int
  b : Int
deriving DecidableEq
def recOkB (r : RecD) : Bool := inB r.k 1 12 && inB r.a 0 1000000 && inB r.b 0 1000000
theorem recOkB_true {r : RecD} : recOkB r = true ↔ (1 ≤ r.k ∧ r.k ≤ 12) ∧ (0 ≤ r.a ∧ r.a ≤ 1000000) ∧ (0 ≤ r.b ∧ r.b ≤ 1000000) := by
  simp [recOkB, inB_true, and_assoc]
def recN (r : RecD) : List Nat := putN r.k.toNat ++ (putN r.a.toNat ++ putN r.b.toNat)
def recsN : List RecD → List Nat
  | [] => []
  | r :: l => recN r ++ recsN l
def allOk (l : List RecD) : Bool := l.all recOkB
def getRec (b : List Nat) : Option (RecD × List Nat) :=
  match getN b with
  | none => none
  | some (k, b1) => match getN b1 with
    | none => none
    | some (a, b2) => match getN b2 with
      | none => none
      | some (c, b3) => if recOkB ⟨k, a, c⟩ then some (⟨k, a, c⟩, b3) else none
def getRecs : Nat → List Nat → Option (List RecD × List Nat)
  | 0, b => some ([], b)
  | n + 1, b => match getRec b with
    | none => none
    | some (r, b1) => match getRecs n b1 with
      | none => none
      | some (l, b2) => some (r :: l, b2)
/-- What is read of bytes. -/
def readN (b : List Nat) : Option (List RecD) :=
  match getN b with
  | none => none
  | some (n, r) => if 80 < n then none else match getRecs n r with
    | none => none
    | some (l, r2) => if r2 = [] then some l else none

end Go.Proofs.YtkefbmbjkijilaaGreatDoor
/- Rb -/
set_option linter.unusedVariables false
namespace Go.Proofs.YtkefbmbjkijilaaGreatDoor
open Go.RowKit

def sumN (b : List Nat) : Nat := b.foldl (fun n x => (31 * n + x) % 65521) 7
theorem sumN_lt (b : List Nat) : sumN b < 65521 := by
  have : ∀ (b : List Nat) (a : Nat), a < 65521 → b.foldl (fun n x => (31 * n + x) % 65521) a < 65521 := fun b => by
    induction b with
    | nil => exact fun a h => h
    | cons x b ih => exact fun a _ => ih _ (Nat.mod_lt _ (by omega))
  exact this b 7 (by omega)
def twoN (n : Nat) : List Nat := [n % 256, n / 256]
def frameN (b : List Nat) : List Nat := twoN b.length ++ (twoN (sumN b) ++ b)
theorem frameN_length (b : List Nat) : (frameN b).length = 4 + b.length := by simp [frameN, twoN]; omega
def at2 (b : List Nat) (i : Nat) : Nat := b.getD i 0 + 256 * b.getD (i + 1) 0
/-- The frame ahead: its records, and how long it is. -/
def getFrame (b : List Nat) : Option (List RecD × Nat) :=
  if b.length < 4 then none else
  if b.length < 4 + at2 b 0 then none else
  if sumN ((b.drop 4).take (at2 b 0)) ≠ at2 b 2 then none else
  match readN ((b.drop 4).take (at2 b 0)) with
  | none => none
  | some l => some (l, 4 + at2 b 0)
theorem getFrame_len {b : List Nat} {l : List RecD} {k : Nat} (h : getFrame b = some (l, k)) : 4 ≤ k ∧ k ≤ b.length := by
  unfold getFrame at h
  split at h
  · cases h
  split at h
  · cases h
  split at h
  · cases h
  split at h
  · cases h
  cases h
  omega
/-- All frames ahead, as far as they are whole: their lists, and how many bytes they are. -/
def framesN (b : List Nat) : List (List RecD) × Nat :=
  match h : getFrame b with
  | none => ([], 0)
  | some (l, k) => (l :: (framesN (b.drop k)).1, k + (framesN (b.drop k)).2)
termination_by b.length
decreasing_by all_goals (have := getFrame_len h; simp; omega)
theorem framesN_none {b : List Nat} (h : getFrame b = none) : framesN b = ([], 0) := by
  rw [framesN]
  split
  · rfl
  · rename_i e; rw [h] at e; cases e
theorem framesN_some {b : List Nat} {l : List RecD} {k : Nat} (h : getFrame b = some (l, k)) : framesN b = (l :: (framesN (b.drop k)).1, k + (framesN (b.drop k)).2) := by
  rw [framesN]
  split
  · rename_i e; rw [h] at e; cases e
  · rename_i l' k' e
    rw [h] at e
    cases e
    rfl
theorem framesN_le (b : List Nat) : (framesN b).2 ≤ b.length := by
  induction hn : b.length using Nat.strongRecOn generalizing b with
  | ind n ih =>
    cases h : getFrame b with
    | none => rw [framesN_none h]; exact Nat.zero_le _
    | some q =>
      obtain ⟨l, k⟩ := q
      rw [framesN_some h]
      have := getFrame_len h
      have := ih (b.drop k).length (by simp; omega) (b.drop k) rfl
      simp at this ⊢
      omega
end Go.Proofs.YtkefbmbjkijilaaGreatDoor
/- Rc -/
set_option linter.unusedVariables false
namespace Go.Proofs.YtkefbmbjkijilaaGreatDoor
open Go.RowKit

/-- The number ahead where it is less than m, and what is behind it. -/
def num (m : Nat) (L : List Nat) : Option (Nat × List Nat) := (getN L).bind fun p => if p.1 < m then some p else none
theorem num_some {m n : Nat} {L r : List Nat} : num m L = some (n, r) ↔ getN L = some (n, r) ∧ n < m := by
  unfold num
  cases h : getN L with
  | none => simp
  | some p =>
    obtain ⟨n', r'⟩ := p
    simp only [Option.bind_some, Option.some.injEq, Prod.mk.injEq]
    by_cases hl : n' < m
    · rw [if_pos hl]; simp; intro h1 h2; omega
    · rw [if_neg hl]; simp; intro h1 h2; omega
theorem num_none {m : Nat} {L : List Nat} : num m L = none ↔ ∀ n r, getN L = some (n, r) → ¬ n < m := by
  constructor
  · intro h n r hg hl
    rw [num_some.2 ⟨hg, hl⟩] at h
    cases h
  · intro h
    cases e : num m L with
    | none => rfl
    | some p => obtain ⟨n, r⟩ := p; obtain ⟨h1, h2⟩ := num_some.1 e; exact absurd h2 (h n r h1)
/-- What the first k bytes tell. -/
def lowN : Nat → List Nat → Nat
  | 0, _ => 0
  | _ + 1, [] => 0
  | k + 1, x :: r => x % 128 + 128 * lowN k r
theorem lowN_succ (k : Nat) (L : List Nat) : lowN (k + 1) L = lowN k L + L.getD k 0 % 128 * 128 ^ k := by
  induction k generalizing L with
  | zero => cases L <;> simp [lowN]
  | succ k ih =>
    cases L with
    | nil => simp [lowN]
    | cons x r =>
      rw [lowN, ih r, lowN]
      simp only [List.getD_cons_succ]
      rw [Nat.pow_succ, ← Nat.mul_assoc]
      generalize r.getD k 0 % 128 * 128 ^ k = q
      omega
theorem lowN_lt (k : Nat) (L : List Nat) : lowN k L < 128 ^ k := by
  induction k generalizing L with
  | zero => simp [lowN]
  | succ k ih =>
    cases L with
    | nil => simp [lowN]; exact Nat.pow_pos (by omega)
    | cons x r => rw [lowN, Nat.pow_succ]; have := ih r; omega
theorem getN_at {k : Nat} : ∀ {L : List Nat}, k < L.length → (∀ j, j < k → 128 ≤ L.getD j 0) → L.getD k 0 < 128 → (∀ x ∈ L, x < 256) →
    getN L = if k = 0 ∨ 0 < L.getD k 0 then some (lowN (k + 1) L, L.drop (k + 1)) else none := by
  induction k with
  | zero =>
    intro L hk _ hl _
    cases L with
    | nil => simp at hk
    | cons x r =>
      simp at hl
      rw [getN_last hl, if_pos (.inl rfl)]
      simp [lowN]
      omega
  | succ k ih =>
    intro L hk hj hl hb
    cases L with
    | nil => simp at hk
    | cons x r =>
      have hx := hj 0 (by omega)
      have hx2 := hb x (by simp)
      simp only [List.getD_cons_zero] at hx
      simp only [List.getD_cons_succ] at hl ⊢
      have e := ih (L := r) (by simpa using hk) (fun j h => by have := hj (j + 1) (by omega); simpa using this) hl (fun y hy => hb y (by simp [hy]))
      by_cases hz : 0 < r.getD k 0
      · rw [if_pos (.inr hz)] at e
        rw [if_pos (.inr hz), getN_more (by omega) e]
        · simp [lowN]; omega
        · have := lowN_succ k r
          have h2 : 0 < r.getD k 0 % 128 * 128 ^ k := Nat.mul_pos (by rw [Nat.mod_eq_of_lt hl]; exact hz) (Nat.pow_pos (by omega))
          omega
      · rw [if_neg (by omega)]
        by_cases hk0 : k = 0
        · subst hk0
          rw [if_pos (.inl rfl)] at e
          have h1 := lowN_succ 0 r
          have h0 : r.getD 0 0 = 0 := by omega
          rw [h0] at h1
          have : lowN 1 r = 0 := by simpa [lowN] using h1
          rw [this] at e
          exact getN_nought (by omega) e
        · rw [if_neg (by omega)] at e
          exact getN_bad (by omega) e
theorem getN_end {m : Nat} : ∀ {L : List Nat}, (∀ j, j < m → j < L.length → 128 ≤ L.getD j 0) → ∀ n r, getN L = some (n, r) → n ≠ 0 → 128 ^ m ≤ n := by
  induction m with
  | zero => intro L _ n r _ hn; simp; omega
  | succ m ih =>
    intro L hj n r hg hn
    cases L with
    | nil => cases hg
    | cons x t =>
      have hx := hj 0 (by omega) (by simp)
      simp only [List.getD_cons_zero] at hx
      cases hq : getN t with
      | none => rw [getN_bad (by omega) hq] at hg; cases hg
      | some q =>
        obtain ⟨k, r'⟩ := q
        by_cases h0 : k = 0
        · subst h0; rw [getN_nought (by omega) hq] at hg; cases hg
        · rw [getN_more (by omega) hq h0] at hg
          cases hg
          have := ih (L := t) (fun j h1 h2 => by have := hj (j + 1) (by omega) (by simpa using h2); simpa using this) k r hq h0
          rw [Nat.pow_succ]
          omega
/-- A number whose last byte is the (k+1)th, k less than K. -/
theorem num_at {k K : Nat} {L : List Nat} (hK : k < K) (hk : k < L.length) (hj : ∀ j, j < k → 128 ≤ L.getD j 0) (hl : L.getD k 0 < 128) (hb : ∀ x ∈ L, x < 256) (hz : k = 0 ∨ 0 < L.getD k 0) :
    num (128 ^ K) L = some (lowN (k + 1) L, L.drop (k + 1)) := by
  have e := getN_at hk hj hl hb
  rw [if_pos hz] at e
  exact num_some.2 ⟨e, Nat.lt_of_lt_of_le (lowN_lt _ _) (Nat.pow_le_pow_right (by omega) hK)⟩
theorem num_bad {k m : Nat} {L : List Nat} (hk : k < L.length) (hj : ∀ j, j < k → 128 ≤ L.getD j 0) (hl : L.getD k 0 < 128) (hb : ∀ x ∈ L, x < 256) (hz : ¬ (k = 0 ∨ 0 < L.getD k 0)) :
    num m L = none := by
  have e := getN_at hk hj hl hb
  rw [if_neg hz] at e
  exact num_none.2 fun n r h => by rw [e] at h; cases h
theorem num_end {K : Nat} {L : List Nat} (hK : 0 < K) (hj : ∀ j, j < K → j < L.length → 128 ≤ L.getD j 0) : num (128 ^ K) L = none := by
  refine num_none.2 fun n r h hl => ?_
  have hn : n ≠ 0 := by
    intro e
    subst e
    cases L with
    | nil => cases h
    | cons x t =>
      have hx := hj 0 hK (by simp)
      simp only [List.getD_cons_zero] at hx
      cases hq : getN t with
      | none => rw [getN_bad (by omega) hq] at h; cases h
      | some q =>
        obtain ⟨k, r'⟩ := q
        by_cases h0 : k = 0
        · subst h0; rw [getN_nought (by omega) hq] at h; cases h
        · rw [getN_more (by omega) hq h0] at h
          injection h with h
          injection h with h _
          omega
  have := getN_end hj n r h hn
  omega

/-- A record read of numbers that are less than m: the same, as no record has a number that is more than a million. -/
theorem getRec_num {m : Nat} (hm : 1000000 < m) (L : List Nat) : getRec L =
    (num m L).bind fun p => (num m p.2).bind fun q => (num m q.2).bind fun s => if recOkB ⟨p.1, q.1, s.1⟩ then some (⟨p.1, q.1, s.1⟩, s.2) else none := by
  have hno : ∀ {k a b : Nat}, (m ≤ k ∨ m ≤ a ∨ m ≤ b) → recOkB ⟨k, a, b⟩ = false := fun {k a b} h => by
    cases e : recOkB ⟨k, a, b⟩
    · rfl
    · have := recOkB_true.1 e
      dsimp only at this
      omega
  unfold getRec num
  cases h1 : getN L with
  | none => rfl
  | some p =>
    obtain ⟨k, r1⟩ := p
    dsimp only [Option.bind_some]
    cases h2 : getN r1 with
    | none => by_cases hk : k < m <;> simp [hk, h2]
    | some q =>
      obtain ⟨a, r2⟩ := q
      dsimp only
      cases h3 : getN r2 with
      | none => by_cases hk : k < m <;> by_cases ha : a < m <;> simp [hk, ha, h2, h3]
      | some s =>
        obtain ⟨b, r3⟩ := s
        dsimp only
        by_cases hk : k < m
        · by_cases ha : a < m
          · by_cases hb : b < m
            · simp [hk, ha, hb, h2, h3]
            · rw [hno (.inr (.inr (by omega)))]
              simp [hk, ha, hb, h2, h3]
          · rw [hno (.inr (.inl (by omega)))]
            simp [hk, ha, h2]
        · rw [hno (.inl (by omega))]
          simp [hk]
/-- What is read of bytes, by such numbers. -/
theorem readN_num {m : Nat} (hm : 80 < m) (L : List Nat) : readN L = (num m L).bind fun p => if 80 < p.1 then none else (getRecs p.1 p.2).bind fun q => if q.2 = [] then some q.1 else none := by
  unfold readN num
  cases h1 : getN L with
  | none => rfl
  | some p =>
    obtain ⟨n, r⟩ := p
    dsimp only [Option.bind_some]
    by_cases hn : n < m
    · rw [if_pos hn]
      dsimp only [Option.bind_some]
      by_cases h8 : 80 < n
      · rw [if_pos h8, if_pos h8]
      · rw [if_neg h8, if_neg h8]
        cases getRecs n r with
        | none => rfl
        | some q => rfl
    · rw [if_neg hn, if_pos (by omega)]
      rfl
theorem getRecs_zero (L : List Nat) : getRecs 0 L = some ([], L) := rfl
theorem getRecs_succ (n : Nat) (L : List Nat) : getRecs (n + 1) L = (getRec L).bind fun p => (getRecs n p.2).map fun q => (p.1 :: q.1, q.2) := by
  rw [getRecs]
  cases getRec L with
  | none => rfl
  | some p =>
    obtain ⟨r, b⟩ := p
    dsimp only [Option.bind_some]
    cases getRecs n b with
    | none => rfl
    | some q => rfl
end Go.Proofs.YtkefbmbjkijilaaGreatDoor
/- Ta -/
set_option linter.unusedVariables false
namespace Go.Proofs.YtkefbmbjkijilaaGreatDoor
open Go.RowKit

structure StD where
  ph : Int
  co : Bool
  ck : Int
  bo : Int
  ba : Int
  lb : Int
  pods : List (Int × Int)
  mnts : List (Bool × Int)
  devs : List Bool
  lks : List Int
  gd : Int
  pr : Int
deriving DecidableEq

def zeroS : StD := ⟨0, false, 0, 0, 0, 0, [], [], [], [], 0, 0⟩

/-- A state is right. -/
structure StOk (d : PlanD) (s : StD) : Prop where
  plan : planOkB d = true
  ph : 0 ≤ s.ph ∧ s.ph ≤ 8
  co : s.co = decide (s.ph ≠ 0)
  ck : 0 ≤ s.ck ∧ s.ck ≤ 1000000
  bo : 0 ≤ s.bo ∧ s.bo ≤ 1000000
  ba : 0 ≤ s.ba ∧ s.ba ≤ 6
  lb : 0 ≤ s.lb ∧ s.lb ≤ 1000000
  gd : 0 ≤ s.gd ∧ s.gd ≤ s.pr
  pr : s.pr ≤ d.t
  np : s.pods.length = d.n0
  nm : s.mnts.length = d.n2
  nd : s.devs.length = d.n3
  pods : ∀ q ∈ s.pods, (0 ≤ q.1 ∧ q.1 ≤ 6) ∧ (0 ≤ q.2 ∧ q.2 ≤ 1000000)
  mnts : ∀ q ∈ s.mnts, (0 ≤ q.2 ∧ q.2 ≤ 5) ∧ (q.1 = false → q.2 = 0)
  lks : ∀ x ∈ s.lks, 0 ≤ x ∧ x ≤ 7
  rise : s.lks.Pairwise (· < ·)

def stOkB (d : PlanD) (s : StD) : Bool :=
  planOkB d && inB s.ph 0 8 && (s.co == decide (s.ph ≠ 0)) && inB s.ck 0 1000000 && inB s.bo 0 1000000 && inB s.ba 0 6 && inB s.lb 0 1000000 && inB s.gd 0 s.pr && decide (s.pr ≤ d.t) &&
  decide (s.pods.length = d.n0) && decide (s.mnts.length = d.n2) && decide (s.devs.length = d.n3) &&
  s.pods.all (fun q => inB q.1 0 6 && inB q.2 0 1000000) && s.mnts.all (fun q => inB q.2 0 5 && (q.1 || q.2 == 0)) && s.lks.all (fun x => inB x 0 7) && decide (s.lks.Pairwise (· < ·))
theorem stOkB_iff {d : PlanD} {s : StD} : stOkB d s = true ↔ StOk d s := by
  simp only [stOkB, Bool.and_eq_true, inB_true, beq_iff_eq, decide_eq_true_eq, List.all_eq_true, Bool.or_eq_true]
  constructor
  · rintro ⟨⟨⟨⟨⟨⟨⟨⟨⟨⟨⟨⟨⟨⟨⟨h1, h2⟩, h3⟩, h4⟩, h5⟩, h6⟩, h7⟩, h8⟩, h9⟩, h10⟩, h11⟩, h12⟩, h13⟩, h14⟩, h15⟩, h16⟩
    exact ⟨h1, h2, h3, h4, h5, h6, h7, h8, h9, h10, h11, h12, h13, fun q hq => ⟨(h14 q hq).1, fun hf => ((h14 q hq).2.resolve_left (by rw [hf]; decide))⟩, h15, h16⟩
  · rintro ⟨h1, h2, h3, h4, h5, h6, h7, h8, h9, h10, h11, h12, h13, h14, h15, h16⟩
    refine ⟨⟨⟨⟨⟨⟨⟨⟨⟨⟨⟨⟨⟨⟨⟨h1, h2⟩, h3⟩, h4⟩, h5⟩, h6⟩, h7⟩, h8⟩, h9⟩, h10⟩, h11⟩, h12⟩, h13⟩, fun q hq => ⟨(h14 q hq).1, ?_⟩⟩, h15⟩, h16⟩
    cases hb : q.1
    · exact .inr ((h14 q hq).2 hb)
    · exact .inl rfl

/-- Chapter 5's new state. -/
def newS (d : PlanD) : StD := if planOkB d then { zeroS with pods := List.replicate d.n0 (0, 0), mnts := List.replicate d.n2 (true, 0), devs := List.replicate d.n3 true } else zeroS
theorem planOk_tries {d : PlanD} (h : planOkB d = true) : 1 ≤ d.p ∧ d.p ≤ 9 ∧ d.p ≤ d.t ∧ d.t ≤ 30 := by
  simp only [planOkB, timesB, sizesB, Bool.and_eq_true, inB_true, decide_eq_true_eq] at h
  obtain ⟨⟨⟨⟨⟨h1, h2⟩, -⟩, -⟩, -⟩, -⟩ := h
  omega
theorem newS_ok {d : PlanD} (h : planOkB d = true) : StOk d (newS d) := by
  have := planOk_tries h
  unfold newS
  rw [if_pos h]
  refine ⟨h, ?_, rfl, ?_, ?_, ?_, ?_, ?_, ?_, ?_, ?_, ?_, ?_, ?_, ?_, ?_⟩ <;> simp [zeroS]
  omega

def aliveB (x : Int) : Bool := inB x 0 3
/-- A list that rises, with a number, and without it. -/
def withN (n : Int) : List Int → List Int
  | [] => [n]
  | x :: l => if n < x then n :: x :: l else if n = x then x :: l else x :: withN n l
def withoutN (l : List Int) (n : Int) : List Int := l.filter (fun x => x != n)
/-- What one record makes of a state. -/
def applyR (s : StD) (r : RecD) : StD :=
  if r.k = 1 then (if r.a = 0 then { s with ph := 0, co := false, gd := 0, pr := 0, lks := [] } else { s with ph := r.a, co := true })
  else if r.k = 2 then { s with pods := s.pods.set r.a.toNat (r.b, s.ck) }
  else if r.k = 3 then { s with mnts := s.mnts.set r.a.toNat ((s.mnts.getD r.a.toNat (false, 0)).1, r.b) }
  else if r.k = 4 then { s with mnts := s.mnts.set r.a.toNat (false, 0) }
  else if r.k = 5 then { s with devs := s.devs.set r.a.toNat false }
  else if r.k = 6 then { s with lks := withN r.a s.lks }
  else if r.k = 7 then { s with lks := withoutN s.lks r.a }
  else if r.k = 8 then { s with ck := r.a }
  else if r.k = 9 then { s with ba := r.a }
  else if r.k = 10 then { s with bo := r.a }
  else if r.k = 11 then { s with lb := r.a }
  else if r.k = 12 then { s with gd := r.a, pr := r.b }
  else s
/-- Is there what a record names? -/
def thereB (s : StD) (r : RecD) : Bool :=
  if r.k = 2 then decide (r.a < s.pods.length) else if r.k = 3 ∨ r.k = 4 then decide (r.a < s.mnts.length) else if r.k = 5 then decide (r.a < s.devs.length) else true

/-- Chapter 6: one record; all of them. -/
def goodR (d : PlanD) (s : StD) (r : RecD) : Bool := recOkB r && thereB s r && stOkB d (applyR s r)
def appliedS (d : PlanD) (s : StD) (r : RecD) : StD × Bool := if stOkB d s then (if goodR d s r then (applyR s r, true) else (s, false)) else (zeroS, false)
def runR (d : PlanD) : StD → List RecD → Option StD
  | s, [] => some s
  | s, r :: l => if goodR d s r then runR d (applyR s r) l else none
def appliedL (d : PlanD) (s : StD) (l : List RecD) : StD × Bool :=
  if stOkB d s then (match runR d s l with | some x => (x, true) | none => (s, false)) else (zeroS, false)
theorem runR_append {d : PlanD} {l m : List RecD} {s : StD} : runR d s (l ++ m) = (runR d s l).bind (fun x => runR d x m) := by
  induction l generalizing s with
  | nil => rfl
  | cons r l ih =>
    simp only [List.cons_append, runR]
    split
    · exact ih
    · rfl
theorem runR_ok {d : PlanD} {l : List RecD} {s x : StD} (h : StOk d s) (hr : runR d s l = some x) : StOk d x := by
  induction l generalizing s with
  | nil => cases hr; exact h
  | cons r l ih =>
    simp only [runR] at hr
    split at hr
    · rename_i hg
      simp only [goodR, Bool.and_eq_true] at hg
      exact ih (stOkB_iff.1 hg.2) hr
    · cases hr

section
variable {d : PlanD} {s : StD} (h : StOk d s)
include h
end

/-- Chapter 7. -/
def podStep (hook grace : Int) (q : Int × Int) (clock : Int) : Int :=
  if q.1 = 0 then (if 0 < hook then 1 else 2) else if q.1 = 1 then (if hook ≤ clock - q.2 then 2 else 1) else if q.1 = 2 then (if grace ≤ clock - q.2 then 3 else 2) else if q.1 = 3 then 4 else q.1
def afterHook (x : Int) : Int := if x = 1 then 2 else -1
def afterExit (x : Int) : Int := if x = 0 ∨ x = 1 then 5 else if x = 2 ∨ x = 3 then 4 else -1
end Go.Proofs.YtkefbmbjkijilaaGreatDoor
/- Tb -/
set_option linter.unusedVariables false
namespace Go.Proofs.YtkefbmbjkijilaaGreatDoor
open Go.RowKit

/-- Of each index below n for which g tells something, in order, what r makes of it. -/
def recsOf {α : Type} (n : Nat) (g : Nat → Option α) (r : Nat → α → RecD) : List RecD := (List.range n).filterMap fun i => (g i).map (r i)
theorem recsOf_zero {α : Type} (g : Nat → Option α) (r : Nat → α → RecD) : recsOf 0 g r = [] := rfl
theorem recsOf_none {α : Type} {n : Nat} {g : Nat → Option α} {r : Nat → α → RecD} (h : g n = none) : recsOf (n + 1) g r = recsOf n g r := by
  simp [recsOf, List.range_succ, List.filterMap_append, h]
theorem recsOf_some {α : Type} {n : Nat} {g : Nat → Option α} {r : Nat → α → RecD} {x : α} (h : g n = some x) : recsOf (n + 1) g r = recsOf n g r ++ [r n x] := by
  simp [recsOf, List.range_succ, List.filterMap_append, h]
theorem recsOf_le {α : Type} (n : Nat) (g : Nat → Option α) (r : Nat → α → RecD) : (recsOf n g r).length ≤ n := by
  induction n with
  | zero => exact Nat.le_refl _
  | succ n ih =>
    cases h : g n
    · rw [recsOf_none h]; omega
    · rw [recsOf_some h, List.length_append]; simp; omega

/-- A list whose elements below n are changed where g tells. -/
def turn {α β : Type} (l : List β) (n : Nat) (g : Nat → Option α) (f : Nat → β → α → β) : List β := l.mapIdx fun i q => if i < n then (match g i with | some x => f i q x | none => q) else q
/-- Mounts' records: busy ones less busy, others free. -/
def mntRec (i : Nat) (q : Bool × Int) : RecD := if q.1 then ⟨3, i, q.2⟩ else ⟨4, i, 0⟩
end Go.Proofs.YtkefbmbjkijilaaGreatDoor
/- Tc -/
set_option linter.unusedVariables false
namespace Go.Proofs.YtkefbmbjkijilaaGreatDoor
open Go.RowKit

def podAt (s : StD) (i : Nat) : Int × Int := s.pods.getD i (0, 0)
def mntAt (s : StD) (i : Nat) : Bool × Int := s.mnts.getD i (false, 0)
def devAt (s : StD) (i : Nat) : Bool := s.devs.getD i false
def bandOf (d : PlanD) (i : Nat) : Int := d.x0 (i * 4 + 1)
def graceOf (d : PlanD) (i : Nat) : Int := d.x0 (i * 4 + 2)
def hookOf (d : PlanD) (i : Nat) : Int := d.x0 (i * 4 + 3)
def mpod (d : PlanD) (i : Nat) : Nat := (d.x2 (i * 2)).toNat
def mpar (d : PlanD) (i : Nat) : Int := d.x2 (i * 2 + 1)
def dmnt (d : PlanD) (i : Nat) : Nat := (d.x3 i).toNat

def stepG (d : PlanD) (s : StD) (b c : Int) (i : Nat) : Option Int :=
  if bandOf d i = b ∧ aliveB (podAt s i).1 = true then (if podStep (hookOf d i) (graceOf d i) (podAt s i) c = (podAt s i).1 then none else some (podStep (hookOf d i) (graceOf d i) (podAt s i) c)) else none
def liveB (d : PlanD) (s : StD) (b : Int) : Bool := (List.range d.n0).any fun i => decide (bandOf d i = b) && aliveB (podAt s i).1
def nextB (d : PlanD) (b : Int) : Int := if nextL d b < 0 then 6 else nextL d b
def shutL (d : PlanD) (s : StD) (c : Int) : List RecD :=
  if s.lks ≠ [] ∧ c < s.lb then [] else if s.ba = 6 then [⟨1, 4, 0⟩] else if liveB d s s.ba then recsOf d.n0 (stepG d s s.ba c) (fun i x => ⟨2, i, x⟩) else [⟨9, nextB d s.ba, 0⟩]
def freeB (d : PlanD) (s : StD) (i : Nat) : Bool := (mntAt s i).1 && !aliveB (podAt s (mpod d i)).1 && (List.range d.n2).all fun j => !(decide (mpar d j = i) && (mntAt s j).1)
def giveB (d : PlanD) (s : StD) (i : Nat) : Bool := devAt s i && !(mntAt s (dmnt d i)).1
def freeG (d : PlanD) (s : StD) (i : Nat) : Option (Bool × Int) := if freeB d s i then some (if 0 < (mntAt s i).2 then (true, (mntAt s i).2 - 1) else (false, 0)) else none
def giveG (d : PlanD) (s : StD) (i : Nat) : Option Unit := if giveB d s i then some () else none
def heldB (s : StD) : Bool := s.mnts.any (fun q => q.1) || s.devs.any (fun x => x)
def releaseL (d : PlanD) (s : StD) : List RecD := if heldB s then recsOf d.n2 (freeG d s) mntRec ++ recsOf d.n3 (giveG d s) (fun i _ => ⟨5, i, 0⟩) else [⟨1, 5, 0⟩]
def tickL (d : PlanD) (s : StD) : List RecD := ⟨8, s.ck + 1, 0⟩ :: (if s.ph = 3 then shutL d s (s.ck + 1) else if s.ph = 4 then releaseL d s else [])

theorem mntAt_ok {d : PlanD} {s : StD} (h : StOk d s) {i : Nat} (hi : i < d.n2) : (0 ≤ (mntAt s i).2 ∧ (mntAt s i).2 ≤ 5) ∧ ((mntAt s i).1 = false → (mntAt s i).2 = 0) := by
  have hl : i < s.mnts.length := by rw [h.nm]; exact hi
  have e : mntAt s i = s.mnts[i] := by simp [mntAt, List.getD, hl]
  rw [e]
  exact h.mnts _ (List.getElem_mem hl)
/-- How many ticks of its own a pod needs at most. -/
def potP (hook grace : Int) (q : Int × Int) (ck : Int) : Int :=
  if q.1 = 0 then 2 + hook + max 1 grace else if q.1 = 1 then max 1 (q.2 + hook - ck) + max 1 grace + 1 else if q.1 = 2 then max 1 (q.2 + grace - ck) + 1 else if q.1 = 3 then 1 else 0
end Go.Proofs.YtkefbmbjkijilaaGreatDoor
/- Td -/
set_option linter.unusedVariables false
namespace Go.Proofs.YtkefbmbjkijilaaGreatDoor
open Go.RowKit

structure HoldsP (d : PlanD) (s : StD) : Prop where
  pod : ∀ i, i < d.n2 → (mntAt s i).1 = false → aliveB (podAt s (mpod d i)).1 = false
  par : ∀ i, i < d.n2 → 0 ≤ mpar d i → (mntAt s i).1 = true → (mntAt s (mpar d i).toNat).1 = true
  dev : ∀ i, i < d.n3 → devAt s i = false → (mntAt s (dmnt d i)).1 = false
structure Going (d : PlanD) (s : StD) : Prop where
  ok : StOk d s
  ph : 3 ≤ s.ph ∧ s.ph ≤ 5
  since : ∀ i, i < d.n0 → (podAt s i).2 ≤ s.ck
  later : s.ph = 3 → ∀ i, i < d.n0 → s.ba < bandOf d i → aliveB (podAt s i).1 = true → (podAt s i).1 = 0
  earlier : s.ph = 3 → ∀ i, i < d.n0 → bandOf d i < s.ba → aliveB (podAt s i).1 = false
  dead : 4 ≤ s.ph → ∀ i, i < d.n0 → aliveB (podAt s i).1 = false
  holds : HoldsP d s
  down : s.ph = 5 → heldB s = false
def over (d : PlanD) (b : Int) : Int := sumB 6 (fun k => if b < k then bandT d k else 0)
def mw (q : Bool × Int) : Int := if q.1 then q.2 + 1 else 0
def relW (d : PlanD) (s : StD) : Int := sumB d.n2 (fun i => mw (mntAt s i)) + sumB d.n3 (fun i => if devAt s i then 1 else 0)
structure Left (d : PlanD) (s : StD) (n : Int) : Prop where
  shut : s.ph = 3 → ∃ lw pw : Int, 0 ≤ lw ∧ 0 ≤ pw ∧ (s.lks = [] ∨ s.lb - 1 - s.ck ≤ lw) ∧ (∀ i, i < d.n0 → bandOf d i = s.ba → aliveB (podAt s i).1 = true → potP (hookOf d i) (graceOf d i) (podAt s i) s.ck ≤ pw) ∧
    lw + pw + (if s.ba = 6 then 0 else 1 + over d s.ba) + 6 * d.n2 + d.n3 + 2 ≤ n
  rel : s.ph = 4 → relW d s + 1 ≤ n
  done : s.ph = 5 → 0 ≤ n

end Go.Proofs.YtkefbmbjkijilaaGreatDoor
