/-
  Where the shutting begins; what else may happen meanwhile.
-/
import Derived.Test.YtdkmhaghnfhajaaGreatMZ0
import Derived.Test.YtdkmhaghnfhajaaGreatMZ1
import Derived.RegionTactic
import Derived.BigRegion
import Derived.StillTailTactics
import Derived.Deep.AppendLies
import Derived.Deep.RegionLaw
import Derived.Deep.DeepCutAuto
/- Pr -/
set_option linter.unusedVariables false
namespace Go.Proofs.YtdkmhaghnfhajaaGreat
open Go.RowKit
set_option maxRecDepth 100000 in
set_option maxHeartbeats 1000000 in
theorem roll_any (A : Option Addr) (n c : Nat) (s : Int) (w : World) (hB : Bytes w w.heap.size A n) (hn : n ≤ 4096) :
    Calls Tryz.prog 9 #[.slice A n c, .int .u64 s] w (Rolled 81 .u64 w) := by
  have HB := Lib.hid hB
  clear hB
  go_enter Tryz.func9, Tryz.ntmps9
  go_wp2
  go_loopw [6] (fun i wr => ∃ k : Nat, k ≤ n ∧ i = .int .i64 k ∧ Below w.heap.size w wr ∧ (∃ h, wr.heap[w.heap.size]? = some (.cells (curC .u64 A n c 0 h) 81 (0, 0)))) (fun i _ => n - (intOf i).toNat)
  case atStart => exact ⟨0, Nat.zero_le _, rfl, (Below.refl _ _).alloc (Nat.le_refl _) _, _, heap_alloc_new _ _⟩
  case round =>
    obtain ⟨k, hk, rfl, K, h, hg⟩ := hrel
    have q2 := cell_of_row wr w.heap.size 2 _ _ _ hg
    have f2 := frozen_of_row wr w.heap.size 2 _ _ hg
    simp at q2
    by_cases hlt : k < n
    · obtain ⟨b, off, rfl, hbg, hz⟩ := HB.out (by omega)
      obtain ⟨z, hz0, z0, z1⟩ := hz k hlt
      have hz0 := (K.cell (p := ⟨b, off + k, none⟩) hbg).trans hz0
      clear hz
      go_wp2_with fail
      go_still_tail 15, (by kernel_rfl)
      have K2 : Below w.heap.size w wr.drew := K.drew
      have hg2 : wr.drew.heap[w.heap.size]? = some (.cells (curC .u64 (some ⟨b, off, none⟩) n c 0 h) 81 (0, 0)) := hg
      have q2 : wr.drew.cell? ⟨w.heap.size, 2, none⟩ = some (.int .u64 h) := q2
      have f2 : wr.drew.frozen? ⟨w.heap.size, 2, none⟩ = false := f2
      change wpList _ _ _ _ _ wr.drew
      clear hg K hz0
      generalize wr.drew = w2 at K2 hg2 q2 f2 ⊢
      go_wp2_with fail
      exact ⟨⟨k + 1, by omega, by go_num, K2.setCell (Nat.le_refl _) _, _, heap_setCell_same _ _ 2 _ _ _ hg2⟩, by simp [intOf]; omega⟩
    · obtain rfl : k = n := by omega
      go_wp2
      go_ret
      refine ⟨_, rfl, Nat.le_refl _, ⟨A, k, c, 0, h, hg, by omega, by omega, hn, HB.out.below K (Nat.le_refl _)⟩, K⟩
end Go.Proofs.YtdkmhaghnfhajaaGreat
/- Ps -/
set_option linter.unusedVariables false
namespace Go.Proofs.YtdkmhaghnfhajaaGreat
open Go.RowKit
def zeroC : Array Value := planC none none none none 0 0 0 0 0 0 0 0 0 0 0
/-- A plan under way in block P, beside the cursor g; R is where the answer will lie. -/
structure Bld (T : TypeId) (kd : IntKind) (w W : World) (g R P : Nat) (cs : Array Value) (v0 v1 v2 v3 : Value) (n0 n1 n2 n3 : Nat) (x0 x1 x2 x3 : Nat → Int) : Prop where
  cur : Cur T kd W g
  keep : Keeps (· = g) w W
  old : g < w.heap.size
  pl : W.heap[P]? = some (.cells cs 29 (0, 0))
  pge : w.heap.size ≤ P
  rl : W.heap[R]? = some (.cells zeroC 29 (0, 0))
  rge : w.heap.size ≤ R
  rp : R ≠ P
  o0 : OI W w.heap.size 62 4 v0 n0 x0
  o1 : OI W w.heap.size 2 1 v1 n1 x1
  o2 : OI W w.heap.size 69 2 v2 n2 x2
  o3 : OI W w.heap.size 79 1 v3 n3 x3

section
variable {T : TypeId} {kd : IntKind} {w W W' : World} {g R P : Nat} {cs : Array Value} {v0 v1 v2 v3 : Value} {n0 n1 n2 n3 : Nat} {x0 x1 x2 x3 : Nat → Int}
def apart (T : TypeId) : Prop := T ≠ 29 ∧ T ≠ 62 ∧ T ≠ 2 ∧ T ≠ 69 ∧ T ≠ 79
theorem Cur.head {T : TypeId} {k : IntKind} {w : World} {g : Nat} (h : Cur T k w g) : ∃ cs, w.heap[g]? = some (.cells cs T (0, 0)) := by
  obtain ⟨A, n, c, i, hh, hg, _⟩ := h
  exact ⟨_, hg⟩
theorem Bld.cell (h : Bld T kd w W g R P cs v0 v1 v2 v3 n0 n1 n2 n3 x0 x1 x2 x3) (o : Nat) : W.cell? ⟨P, o, none⟩ = cs[o]? := cell_of_row W P o cs _ _ h.pl
theorem Bld.frozen (h : Bld T kd w W g R P cs v0 v1 v2 v3 n0 n1 n2 n3 x0 x1 x2 x3) (o : Nat) : W.frozen? ⟨P, o, none⟩ = false := frozen_of_row W P o cs _ h.pl
theorem Bld.lt (h : Bld T kd w W g R P cs v0 v1 v2 v3 n0 n1 n2 n3 x0 x1 x2 x3) : P < W.heap.size := (Array.getElem?_eq_some_iff.1 h.pl).1
theorem Bld.rlt (h : Bld T kd w W g R P cs v0 v1 v2 v3 n0 n1 n2 n3 x0 x1 x2 x3) : R < W.heap.size := (Array.getElem?_eq_some_iff.1 h.rl).1
theorem Bld.draw (h : Bld T kd w W g R P cs v0 v1 v2 v3 n0 n1 n2 n3 x0 x1 x2 x3) (hT : apart T) (hk : Keeps (· = g) W W') (hc : Cur T kd W' g) : Bld T kd w W' g R P cs v0 v1 v2 v3 n0 n1 n2 n3 x0 x1 x2 x3 := by
  obtain ⟨ds, hg⟩ := h.cur.head
  have hPg : ¬ P = g := fun e => by
    have := h.pl
    rw [e, hg] at this
    injection this with this
    injection this with _ ht
    exact hT.1 ht
  have hRg : ¬ R = g := fun e => by
    have := h.rl
    rw [e, hg] at this
    injection this with this
    injection this with _ ht
    exact hT.1 ht
  exact ⟨hc, h.keep.trans hk, h.old, (hk.block P h.lt hPg).trans h.pl, h.pge, (hk.block R h.rlt hRg).trans h.rl, h.rge, h.rp, h.o0.keeps hk hg hT.2.1, h.o1.keeps hk hg hT.2.2.1, h.o2.keeps hk hg hT.2.2.2.1, h.o3.keeps hk hg hT.2.2.2.2⟩
theorem Bld.below (h : Bld T kd w W g R P cs v0 v1 v2 v3 n0 n1 n2 n3 x0 x1 x2 x3) (hb : Below W.heap.size W W') : Bld T kd w W' g R P cs v0 v1 v2 v3 n0 n1 n2 n3 x0 x1 x2 x3 :=
  ⟨h.cur.below hb, h.keep.trans (Keeps.of_below hb), h.old, (hb.block P h.lt).trans h.pl, h.pge, (hb.block R h.rlt).trans h.rl, h.rge, h.rp, h.o0.below hb, h.o1.below hb, h.o2.below hb, h.o3.below hb⟩
theorem Bld.alloc (h : Bld T kd w W g R P cs v0 v1 v2 v3 n0 n1 n2 n3 x0 x1 x2 x3) (o : Obj) : Bld T kd w (W.alloc o) g R P cs v0 v1 v2 v3 n0 n1 n2 n3 x0 x1 x2 x3 := h.below ((Below.refl _ _).alloc (Nat.le_refl _) o)
theorem Bld.drew (h : Bld T kd w W g R P cs v0 v1 v2 v3 n0 n1 n2 n3 x0 x1 x2 x3) : Bld T kd w W.drew g R P cs v0 v1 v2 v3 n0 n1 n2 n3 x0 x1 x2 x3 := h.below (Below.refl _ _).drew
theorem OI.setP {e k n : Nat} {B : Nat} {v : Value} {x : Nat → Int} (h : OI W B e k v n x) (hP : W.heap[P]? = some (.cells cs 29 (0, 0))) (hne : (29 : Nat) ≠ e) (i : Nat) (u : Value) : OI (W.setCell ⟨P, i, none⟩ u) B e k v n x :=
  h.keeps ((Keeps.refl (· = P) W).set (p := ⟨P, i, none⟩) rfl u) hP hne
theorem Bld.store (h : Bld T kd w W g R P cs v0 v1 v2 v3 n0 n1 n2 n3 x0 x1 x2 x3) (hT : apart T) (i : Nat) (u : Value) : Bld T kd w (W.setCell ⟨P, i, none⟩ u) g R P (cs.setIfInBounds i u) v0 v1 v2 v3 n0 n1 n2 n3 x0 x1 x2 x3 := by
  have hP := h.pl
  have hold := h.old
  have hge := h.pge
  have hk : Keeps (· = P) W (W.setCell ⟨P, i, none⟩ u) := (Keeps.refl (· = P) W).set (p := ⟨P, i, none⟩) rfl u
  refine ⟨h.cur.keeps hk (fun b hb e => by have e : b = P := e; omega), ?_, hold, heap_setCell_same W P i cs _ u hP, hge, (hk.block R h.rlt h.rp).trans h.rl, h.rge, h.rp, h.o0.setP hP (by decide) i u, h.o1.setP hP (by decide) i u, h.o2.setP hP (by decide) i u, h.o3.setP hP (by decide) i u⟩
  have hk0 := h.keep
  exact ⟨hk.os.trans hk0.os, hk.tape.trans hk0.tape, hk.output.trans hk0.output, Nat.le_trans hk0.size hk.size, fun b hb hn => (hk.block b (Nat.lt_of_lt_of_le hb hk0.size) (fun e => by have e : b = P := e; omega)).trans (hk0.block b hb hn)⟩
/-- What grows is one of the call's own rows: cursor, plan, what was there stay. -/
theorem Bld.base (h : Bld T kd w W g R P cs v0 v1 v2 v3 n0 n1 n2 n3 x0 x1 x2 x3) {e k n : Nat} {v : Value} {x : Nat → Int} (ho : OI W w.heap.size e k v n x) (hT : T ≠ e) (hP : (29 : Nat) ≠ e) (hg : W.grownBy W' v.ownBlock) :
    Cur T kd W' g ∧ Keeps (· = g) w W' ∧ W'.heap[P]? = some (.cells cs 29 (0, 0)) ∧ W'.heap[R]? = some (.cells zeroC 29 (0, 0)) := by
  have hlt := h.cur.lt
  have hold := h.old
  have hr : ∀ r, v.ownBlock = some r → w.heap.size ≤ r := fun r hr => by
    obtain ⟨xs, hown, _⟩ := ho
    exact (hown.lt r hr).1
  have hk : Keeps (fun b => v.ownBlock = some b) W W' := ⟨hg.os, hg.tape, hg.output, hg.size, fun b hb hn => hg.block b hb fun e => hn e.symm⟩
  refine ⟨h.cur.keeps hk (fun b hb e => by have := hr b e; omega), ?_, ?_, ?_⟩
  · have hk0 := h.keep
    exact ⟨hk.os.trans hk0.os, hk.tape.trans hk0.tape, hk.output.trans hk0.output, Nat.le_trans hk0.size hk.size, fun b hb hn => (hk.block b (Nat.lt_of_lt_of_le hb hk0.size) (fun e => by have := hr b e; omega)).trans (hk0.block b hb hn)⟩
  · refine (hk.block P h.lt fun e => ?_).trans h.pl
    obtain ⟨ds, hb⟩ := ho.block e
    rw [h.pl] at hb
    injection hb with hb
    injection hb with _ ht
    exact hP ht
  · refine (hk.block R h.rlt fun e => ?_).trans h.rl
    obtain ⟨ds, hb⟩ := ho.block e
    rw [h.rl] at hb
    injection hb with hb
    injection hb with _ ht
    exact hP ht
theorem Bld.push0 (h : Bld T kd w W g R P cs v0 v1 v2 v3 n0 n1 n2 n3 x0 x1 x2 x3) (hT : apart T) {v0' : Value} {m : Nat} {x : Nat → Int} (hg : W.grownBy W' v0.ownBlock) (ho : OI W' w.heap.size 62 4 v0' m x) : Bld T kd w W' g R P cs v0' v1 v2 v3 m n1 n2 n3 x x1 x2 x3 := by
  obtain ⟨a, b, c, r⟩ := h.base h.o0 hT.2.1 (by decide) hg
  exact ⟨a, b, h.old, c, h.pge, r, h.rge, h.rp, ho, h.o1.grown h.o0 (by decide) hg, h.o2.grown h.o0 (by decide) hg, h.o3.grown h.o0 (by decide) hg⟩
theorem Bld.push1 (h : Bld T kd w W g R P cs v0 v1 v2 v3 n0 n1 n2 n3 x0 x1 x2 x3) (hT : apart T) {v1' : Value} {m : Nat} {x : Nat → Int} (hg : W.grownBy W' v1.ownBlock) (ho : OI W' w.heap.size 2 1 v1' m x) : Bld T kd w W' g R P cs v0 v1' v2 v3 n0 m n2 n3 x0 x x2 x3 := by
  obtain ⟨a, b, c, r⟩ := h.base h.o1 hT.2.2.1 (by decide) hg
  exact ⟨a, b, h.old, c, h.pge, r, h.rge, h.rp, h.o0.grown h.o1 (by decide) hg, ho, h.o2.grown h.o1 (by decide) hg, h.o3.grown h.o1 (by decide) hg⟩
theorem Bld.push2 (h : Bld T kd w W g R P cs v0 v1 v2 v3 n0 n1 n2 n3 x0 x1 x2 x3) (hT : apart T) {v2' : Value} {m : Nat} {x : Nat → Int} (hg : W.grownBy W' v2.ownBlock) (ho : OI W' w.heap.size 69 2 v2' m x) : Bld T kd w W' g R P cs v0 v1 v2' v3 n0 n1 m n3 x0 x1 x x3 := by
  obtain ⟨a, b, c, r⟩ := h.base h.o2 hT.2.2.2.1 (by decide) hg
  exact ⟨a, b, h.old, c, h.pge, r, h.rge, h.rp, h.o0.grown h.o2 (by decide) hg, h.o1.grown h.o2 (by decide) hg, ho, h.o3.grown h.o2 (by decide) hg⟩
theorem Bld.push3 (h : Bld T kd w W g R P cs v0 v1 v2 v3 n0 n1 n2 n3 x0 x1 x2 x3) (hT : apart T) {v3' : Value} {m : Nat} {x : Nat → Int} (hg : W.grownBy W' v3.ownBlock) (ho : OI W' w.heap.size 79 1 v3' m x) : Bld T kd w W' g R P cs v0 v1 v2 v3' n0 n1 n2 m x0 x1 x2 x := by
  obtain ⟨a, b, c, r⟩ := h.base h.o3 hT.2.2.2.2 (by decide) hg
  exact ⟨a, b, h.old, c, h.pge, r, h.rge, h.rp, h.o0.grown h.o3 (by decide) hg, h.o1.grown h.o3 (by decide) hg, h.o2.grown h.o3 (by decide) hg, ho⟩
end
section
variable {T : TypeId} {kd : IntKind} {w W : World} {g R P : Nat} {cs : Array Value} {v0 v1 v2 v3 : Value} {n0 n1 n2 n3 : Nat} {x0 x1 x2 x3 : Nat → Int}
variable {ops : Array Oper} {o : Oper} {ac : Act} {K : Act → World → Prop} {Q : Exit → Act → World → Prop} {E : Prop}

theorem push0_step (B : Bld T kd w W g R P cs v0 v1 v2 v3 n0 n1 n2 n3 x0 x1 x2 x3) (hT : apart T) (hn : n0 ≤ 1000) (a b c d : Int) (hgd : o.guard = none) (s x : Operand)
    (ho : o.op = .call { callee := .builtin .append, args := #[s, x], argTypes := #[24, 24] }) (hs : ac.eval s = v0) (hx : ac.eval x = .slice (some ⟨W.heap.size, 0, none⟩) 1 1)
    (h : ∀ gg cap W', Bld T kd w W' g R P cs (.slice (some ⟨gg, 0, none⟩) (n0 + 1) cap) v1 v2 v3 (n0 + 1) n1 n2 n3 (ext n0 4 x0 [a, b, c, d]) x1 x2 x3 → K (ac.put o.dst (.slice (some ⟨gg, 0, none⟩) (n0 + 1) cap)) W') :
    if Region.wanted o (yielded ops ac.tmps) = true then Oper.wp Tryz.prog o ac (W.alloc (.cells #[.int .i64 a, .int .i64 b, .int .i64 c, .int .i64 d] 62)) K Q else E := by
  obtain ⟨i, hi, hz0, hz1, hz2⟩ := info_parts info_pod
  obtain ⟨xs, hown, hxs⟩ := B.o0
  have hlt := B.lt
  have hge := B.pge
  refine step_append_lies _ hgd s x _ ho w.heap.size 62 i _ 4 32 Tryz.underlying24 hi hz0 hz1 hz2 rfl (by omega) v0 n0 xs hs (hown.alloc _) ⟨W.heap.size, 0, none⟩ 1 1 [.int .i64 a, .int .i64 b, .int .i64 c, .int .i64 d] hx rfl
    (World.news_of_block (cs := #[.int .i64 a, .int .i64 b, .int .i64 c, .int .i64 d]) (heap_alloc_new W _)) (by simp [Value.oneCell']) (by omega) (by unfold maxLen; omega) (by omega) (by simp; omega) (W.heap.size + 1) (by simp) ?_
  intro gg cap w6 hown6 hgrow hat hltg
  exact h _ _ _ ((B.alloc (.cells #[.int .i64 a, .int .i64 b, .int .i64 c, .int .i64 d] 62)).push0 hT hgrow (OI.push hxs hown.1 [a, b, c, d] rfl hown6))

theorem push1_step (B : Bld T kd w W g R P cs v0 v1 v2 v3 n0 n1 n2 n3 x0 x1 x2 x3) (hT : apart T) (hn : n1 ≤ 1000) (a : Int) (hgd : o.guard = none) (s x : Operand)
    (ho : o.op = .call { callee := .builtin .append, args := #[s, x], argTypes := #[25, 25] }) (hs : ac.eval s = v1) (hx : ac.eval x = .slice (some ⟨W.heap.size, 0, none⟩) 1 1)
    (h : ∀ gg cap W', Bld T kd w W' g R P cs v0 (.slice (some ⟨gg, 0, none⟩) (n1 + 1) cap) v2 v3 n0 (n1 + 1) n2 n3 x0 (ext n1 1 x1 [a]) x2 x3 → K (ac.put o.dst (.slice (some ⟨gg, 0, none⟩) (n1 + 1) cap)) W') :
    if Region.wanted o (yielded ops ac.tmps) = true then Oper.wp Tryz.prog o ac (W.alloc (.cells #[.int .i64 a] 2)) K Q else E := by
  obtain ⟨i, hi, hz0, hz1, hz2⟩ := info_parts info_i64
  obtain ⟨xs, hown, hxs⟩ := B.o1
  have hlt := B.lt
  have hge := B.pge
  refine step_append_lies _ hgd s x _ ho w.heap.size 2 i _ 1 8 Tryz.underlying25 hi hz0 hz1 hz2 rfl (by omega) v1 n1 xs hs (hown.alloc _) ⟨W.heap.size, 0, none⟩ 1 1 [.int .i64 a] hx rfl
    (World.news_of_block (cs := #[.int .i64 a]) (heap_alloc_new W _)) (by simp [Value.oneCell']) (by omega) (by unfold maxLen; omega) (by omega) (by simp; omega) (W.heap.size + 1) (by simp) ?_
  intro gg cap w6 hown6 hgrow hat hltg
  exact h _ _ _ ((B.alloc (.cells #[.int .i64 a] 2)).push1 hT hgrow (OI.push hxs hown.1 [a] rfl hown6))

theorem push2_step (B : Bld T kd w W g R P cs v0 v1 v2 v3 n0 n1 n2 n3 x0 x1 x2 x3) (hT : apart T) (hn : n2 ≤ 1000) (a b : Int) (hgd : o.guard = none) (s x : Operand)
    (ho : o.op = .call { callee := .builtin .append, args := #[s, x], argTypes := #[26, 26] }) (hs : ac.eval s = v2) (hx : ac.eval x = .slice (some ⟨W.heap.size, 0, none⟩) 1 1)
    (h : ∀ gg cap W', Bld T kd w W' g R P cs v0 v1 (.slice (some ⟨gg, 0, none⟩) (n2 + 1) cap) v3 n0 n1 (n2 + 1) n3 x0 x1 (ext n2 2 x2 [a, b]) x3 → K (ac.put o.dst (.slice (some ⟨gg, 0, none⟩) (n2 + 1) cap)) W') :
    if Region.wanted o (yielded ops ac.tmps) = true then Oper.wp Tryz.prog o ac (W.alloc (.cells #[.int .i64 a, .int .i64 b] 69)) K Q else E := by
  obtain ⟨i, hi, hz0, hz1, hz2⟩ := info_parts info_mount
  obtain ⟨xs, hown, hxs⟩ := B.o2
  have hlt := B.lt
  have hge := B.pge
  refine step_append_lies _ hgd s x _ ho w.heap.size 69 i _ 2 16 Tryz.underlying26 hi hz0 hz1 hz2 rfl (by omega) v2 n2 xs hs (hown.alloc _) ⟨W.heap.size, 0, none⟩ 1 1 [.int .i64 a, .int .i64 b] hx rfl
    (World.news_of_block (cs := #[.int .i64 a, .int .i64 b]) (heap_alloc_new W _)) (by simp [Value.oneCell']) (by omega) (by unfold maxLen; omega) (by omega) (by simp; omega) (W.heap.size + 1) (by simp) ?_
  intro gg cap w6 hown6 hgrow hat hltg
  exact h _ _ _ ((B.alloc (.cells #[.int .i64 a, .int .i64 b] 69)).push2 hT hgrow (OI.push hxs hown.1 [a, b] rfl hown6))

theorem push3_step (B : Bld T kd w W g R P cs v0 v1 v2 v3 n0 n1 n2 n3 x0 x1 x2 x3) (hT : apart T) (hn : n3 ≤ 1000) (a : Int) (hgd : o.guard = none) (s x : Operand)
    (ho : o.op = .call { callee := .builtin .append, args := #[s, x], argTypes := #[27, 27] }) (hs : ac.eval s = v3) (hx : ac.eval x = .slice (some ⟨W.heap.size, 0, none⟩) 1 1)
    (h : ∀ gg cap W', Bld T kd w W' g R P cs v0 v1 v2 (.slice (some ⟨gg, 0, none⟩) (n3 + 1) cap) n0 n1 n2 (n3 + 1) x0 x1 x2 (ext n3 1 x3 [a]) → K (ac.put o.dst (.slice (some ⟨gg, 0, none⟩) (n3 + 1) cap)) W') :
    if Region.wanted o (yielded ops ac.tmps) = true then Oper.wp Tryz.prog o ac (W.alloc (.cells #[.int .i64 a] 79)) K Q else E := by
  obtain ⟨i, hi, hz0, hz1, hz2⟩ := info_parts info_device
  obtain ⟨xs, hown, hxs⟩ := B.o3
  have hlt := B.lt
  have hge := B.pge
  refine step_append_lies _ hgd s x _ ho w.heap.size 79 i _ 1 8 Tryz.underlying27 hi hz0 hz1 hz2 rfl (by omega) v3 n3 xs hs (hown.alloc _) ⟨W.heap.size, 0, none⟩ 1 1 [.int .i64 a] hx rfl
    (World.news_of_block (cs := #[.int .i64 a]) (heap_alloc_new W _)) (by simp [Value.oneCell']) (by omega) (by unfold maxLen; omega) (by omega) (by simp; omega) (W.heap.size + 1) (by simp) ?_
  intro gg cap w6 hown6 hgrow hat hltg
  exact h _ _ _ ((B.alloc (.cells #[.int .i64 a] 79)).push3 hT hgrow (OI.push hxs hown.1 [a] rfl hown6))
end

theorem Bld.start {T : TypeId} {kd : IntKind} {w w2 : World} {g : Nat} (hT : apart T) (hold : g < w.heap.size) (hc : Cur T kd w2 g) (hk : Keeps (· = g) (w.alloc (.cells zeroC 29)) w2) (cs : Array Value) :
    Bld T kd w (w2.alloc (.cells cs 29)) g w.heap.size w2.heap.size cs (.slice none 0 0) (.slice none 0 0) (.slice none 0 0) (.slice none 0 0) 0 0 0 0 (fun _ => 0) (fun _ => 0) (fun _ => 0) (fun _ => 0) := by
  have hs := hk.size
  rw [heap_size_alloc_] at hs
  have hb2 : Below w2.heap.size w2 (w2.alloc (.cells cs 29)) := (Below.refl _ _).alloc (Nat.le_refl _) _
  have hb1 : Below w.heap.size w (w.alloc (.cells zeroC 29)) := (Below.refl _ _).alloc (Nat.le_refl _) _
  exact ⟨hc.below hb2, (Keeps.of_below hb1).trans (hk.trans (Keeps.of_below hb2)), hold, heap_alloc_new _ _, by omega,
    (hb2.block _ (by omega)).trans ((hk.block _ (by rw [heap_size_alloc_]; omega) (by show ¬ w.heap.size = g; omega)).trans (heap_alloc_new _ _)), Nat.le_refl _, by omega,
    OI.nil_ _ _ _ _ _, OI.nil_ _ _ _ _ _, OI.nil_ _ _ _ _ _, OI.nil_ _ _ _ _ _⟩
theorem apart_dice : apart 81 := ⟨by decide, by decide, by decide, by decide, by decide⟩
theorem apart_cur : apart 112 := ⟨by decide, by decide, by decide, by decide, by decide⟩
end Go.Proofs.YtdkmhaghnfhajaaGreat
/- PsB -/
set_option linter.unusedVariables false
namespace Go.Proofs.YtdkmhaghnfhajaaGreat
open Go.RowKit
/-- What a draw of a plan answers: lists of its own, of which Q holds. -/
def DrawnPlan (T : TypeId) (kd : IntKind) (Q : PlanD → Prop) (g : Nat) (w : World) (e : Ending) (w' : World) : Prop :=
  ∃ v0 v1 v2 v3 d, e = .returned (.agg #[v0, v1, v2, v3, .int .i64 d.l, .int .i64 d.p, .int .i64 d.t]) ∧
    OI w' w.heap.size 62 4 v0 d.n0 d.x0 ∧ OI w' w.heap.size 2 1 v1 d.n1 d.x1 ∧ OI w' w.heap.size 69 2 v2 d.n2 d.x2 ∧ OI w' w.heap.size 79 1 v3 d.n3 d.x3 ∧
    Cur T kd w' g ∧ Keeps (· = g) w w' ∧ Q d

theorem mul_small {d e : Int} (hd : 0 ≤ d) (hd' : d < 2) (he : 0 ≤ e) (he' : e < 6) : 0 ≤ IntKind.i64.wrap (d * e) ∧ IntKind.i64.wrap (d * e) ≤ 500 := by
  rcases (by omega : d = 0 ∨ d = 1) with rfl | rfl
  · simp; decide
  · rw [Int.one_mul, IntWalk.i64_in _ (by omega)]; omega
theorem min_ok {m : Nat} {x : Nat → Int} {a : Int} (h : ∀ j, j < m → minB x j = true) (h0 : 0 ≤ a) (h1 : a < 3) : ∀ j, j < m + 1 → minB (ext m 1 x [a]) j = true := fun j hj => by
  by_cases e : j < m
  · have := h j e
    unfold minB at this ⊢
    rwa [ext_lt (by omega)]
  · obtain rfl : j = m := by omega
    unfold minB
    have := ext_at (n := j) (k := 1) (x := x) (l := [a]) 0
    rw [Nat.mul_one, Nat.add_zero] at this
    rw [this, inB_true]
    simp
    omega
theorem pod_ok {N m : Nat} {x : Nat → Int} {a b c d : Int} (h : ∀ j, j < m → podB N x j = true) (a0 : 0 ≤ a) (a1 : a < N) (b0 : 0 ≤ b) (b1 : b < 4) (c0 : 0 ≤ c) (c1 : c < 6) (d0 : 0 ≤ d) (d1 : d ≤ 500) :
    ∀ j, j < m + 1 → podB N (ext m 4 x [a, b, c, d]) j = true := fun j hj => by
  by_cases e : j < m
  · have := h j e
    unfold podB at this ⊢
    rwa [ext_lt (by omega), ext_lt (by omega), ext_lt (by omega), ext_lt (by omega)]
  · obtain rfl : j = m := by omega
    unfold podB
    have e0 := ext_at (n := j) (k := 4) (x := x) (l := [a, b, c, d]) 0
    rw [Nat.add_zero] at e0
    rw [e0, ext_at, ext_at, ext_at]
    simp [inB]
    omega
theorem mount_ok {N m : Nat} {x : Nat → Int} {a b : Int} (h : ∀ j, j < m → mountB N x j = true) (a0 : 0 ≤ a) (a1 : a < N) (b0 : -1 ≤ b) (b1 : b < m) : ∀ j, j < m + 1 → mountB N (ext m 2 x [a, b]) j = true := fun j hj => by
  by_cases e : j < m
  · have := h j e
    unfold mountB at this ⊢
    rwa [ext_lt (by omega), ext_lt (by omega)]
  · obtain rfl : j = m := by omega
    unfold mountB
    have e0 := ext_at (n := j) (k := 2) (x := x) (l := [a, b]) 0
    rw [Nat.add_zero] at e0
    rw [e0, ext_at]
    simp [inB]
    omega
theorem device_ok {N m : Nat} {x : Nat → Int} {a : Int} (h : ∀ j, j < m → deviceB N x j = true) (a0 : 0 ≤ a) (a1 : a < N) : ∀ j, j < m + 1 → deviceB N (ext m 1 x [a]) j = true := fun j hj => by
  by_cases e : j < m
  · have := h j e
    unfold deviceB at this ⊢
    rwa [ext_lt (by omega)]
  · obtain rfl : j = m := by omega
    unfold deviceB
    have := ext_at (n := j) (k := 1) (x := x) (l := [a]) 0
    rw [Nat.mul_one, Nat.add_zero] at this
    rw [this, inB_true]
    simp
    omega
theorem ok_of (n0 n1 n2 n3 : Nat) (x0 x1 x2 x3 : Nat → Int) (l p t : Int) (l0 : 0 ≤ l) (l1 : l < 8) (p1 : 1 ≤ p) (p2 : p ≤ 3) (t1 : p ≤ t) (t2 : t ≤ 7) (a0 : n0 ≤ 6) (a1 : n1 ≤ 3) (a2 : n2 ≤ 5) (a3 : n3 ≤ 3)
    (h0 : ∀ j, j < n0 → podB n1 x0 j = true) (h1 : ∀ j, j < n1 → minB x1 j = true) (h2 : ∀ j, j < n2 → mountB n0 x2 j = true) (h3 : ∀ j, j < n3 → deviceB n2 x3 j = true) : planOkB ⟨n0, n1, n2, n3, x0, x1, x2, x3, l, p, t⟩ = true := by
  simp only [planOkB, allB_true.2 h0, allB_true.2 h1, allB_true.2 h2, allB_true.2 h3, sizesB, timesB, inB]
  simp
  omega
theorem Bld.out {T : TypeId} {kd : IntKind} {w W W' : World} {g R P : Nat} {cs : Array Value} {v0 v1 v2 v3 : Value} {n0 n1 n2 n3 : Nat} {x0 x1 x2 x3 : Nat → Int} (B : Bld T kd w W g R P cs v0 v1 v2 v3 n0 n1 n2 n3 x0 x1 x2 x3) (hk : Keeps (· = R) W W') :
    OI W' w.heap.size 62 4 v0 n0 x0 ∧ OI W' w.heap.size 2 1 v1 n1 x1 ∧ OI W' w.heap.size 69 2 v2 n2 x2 ∧ OI W' w.heap.size 79 1 v3 n3 x3 ∧ Cur T kd W' g ∧ Keeps (· = g) w W' := by
  have hr := B.rl
  have hge := B.rge
  have hold := B.old
  have hk0 := B.keep
  exact ⟨B.o0.keeps hk hr (by decide), B.o1.keeps hk hr (by decide), B.o2.keeps hk hr (by decide), B.o3.keeps hk hr (by decide), B.cur.keeps hk (fun b hb e => by have e : b = R := e; omega),
    hk.os.trans hk0.os, hk.tape.trans hk0.tape, hk.output.trans hk0.output, Nat.le_trans hk0.size hk.size, fun b hb hn => (hk.block b (Nat.lt_of_lt_of_le hb hk0.size) (fun e => by have e : b = R := e; omega)).trans (hk0.block b hb hn)⟩
theorem all_none {f : Nat → Bool} : ∀ j, j < 0 → f j = true := fun j hj => absurd hj (by omega)
end Go.Proofs.YtdkmhaghnfhajaaGreat
/- PwA -/
set_option linter.unusedVariables false
namespace Go.Proofs.YtdkmhaghnfhajaaGreat
open Go.RowKit
/-- A list of whole numbers, opened. -/
structure Lst (w : World) (v : Value) (L : List Int) : Prop where
  it : ∃ A c, v = .slice A L.length c ∧ Sl w w.heap.size 1 A L.length (fun j => L.getD j 0)
theorem Lst.of {w : World} {B : Nat} {v : Value} {L : List Int} (h : w.ownsRow B 2 1 v L.length (L.map (Value.int .i64))) : Lst w v L := by
  obtain ⟨A, c, g, rfl, hA, _, hz, R⟩ := open_list h
  exact ⟨A, c, rfl, row_sl hA hz R⟩
theorem Lst.go {w w' : World} {v : Value} {L : List Int} (h : Lst w v L) (hb : Below w.heap.size w w') : Lst w' v L := by
  obtain ⟨A, c, rfl, S⟩ := h
  exact ⟨A, c, rfl, (S.below hb (Nat.le_refl _)).more hb.size⟩

set_option maxRecDepth 100000 in
set_option maxHeartbeats 1000000 in
theorem likeInts_same (v v' : Value) (L : List Int) (w : World) (h : Lst w v L) (h' : Lst w v' L) (hn : L.length ≤ maxLen) :
    Calls Tryz.prog 15 #[v, v'] w fun e w' => e = .returned (.bool true) ∧ Below w.heap.size w w' := by
  obtain ⟨A, c, rfl, s⟩ := h
  obtain ⟨A', c', rfl, s'⟩ := h'
  generalize hL : L.length = n at *
  clear hL
  unfold maxLen at hn
  have S := Lib.hid s
  have S' := Lib.hid s'
  clear s s'
  go_enter Tryz.func15, Tryz.ntmps15
  go_wp2
  go_loopw [5] (fun i wr => ∃ k : Nat, k ≤ n ∧ i = .int .i64 k ∧ Below w.heap.size w wr) (fun i _ => n - (intOf i).toNat)
  case atStart => exact ⟨0, Nat.zero_le _, rfl, Below.refl _ _⟩
  case round =>
    obtain ⟨k, hk, rfl, K⟩ := hrel
    by_cases hlt : k < n
    · obtain ⟨b, off, rfl, hb, q0⟩ := ((S.out.below K (Nat.le_refl _)).more K.size).cell1 hlt
      obtain ⟨b', off', rfl, hb', r0⟩ := ((S'.out.below K (Nat.le_refl _)).more K.size).cell1 hlt
      go_wp2_with fail
      go_quiet (fail)
      go_wp2
      exact ⟨⟨k + 1, by omega, by go_num, below_drewN K _⟩, by simp [intOf]; omega⟩
    · obtain rfl : k = n := by omega
      go_wp2
      go_ret
      exact ⟨rfl, K⟩

end Go.Proofs.YtdkmhaghnfhajaaGreat
/- Qa -/
set_option linter.unusedVariables false
namespace Go.Proofs.YtdkmhaghnfhajaaGreat
open Go.RowKit

/-- The numbers below n at which p is true, rising. -/
def picks (n : Nat) (p : Nat → Bool) : List Int := ((List.range n).filter p).map (fun i : Nat => (i : Int))
theorem picks_yes {n : Nat} {p : Nat → Bool} (h : p n = true) : picks (n + 1) p = picks n p ++ [(n : Int)] := by
  simp [picks, List.range_succ, List.filter_append, h]
theorem picks_no {n : Nat} {p : Nat → Bool} (h : p n = false) : picks (n + 1) p = picks n p := by
  simp [picks, List.range_succ, List.filter_append, h]
theorem picks_le (n : Nat) (p : Nat → Bool) : (picks n p).length ≤ n := by
  have := List.length_filter_le p (List.range n)
  simpa [picks] using this
theorem picks_mem {n : Nat} {p : Nat → Bool} {x : Int} (h : x ∈ picks n p) : ∃ i : Nat, i < n ∧ x = i ∧ p i = true := by
  simp only [picks, List.mem_map, List.mem_filter, List.mem_range] at h
  obtain ⟨i, ⟨h1, h2⟩, h3⟩ := h
  exact ⟨i, h1, h3.symm, h2⟩
theorem picks_rise (n : Nat) (p : Nat → Bool) : (picks n p).Pairwise (· < ·) := by
  unfold picks
  rw [List.pairwise_map]
  exact ((List.pairwise_lt_range (n := n)).sublist List.filter_sublist).imp fun h => by omega
theorem hits_picks (n : Nat) (f : Nat → Int) (x : Int) : hits n f x = picks n (fun i => f i == x) := rfl

def podsL (d : PlanD) (b : Int) : List Int := found d d.n0 (fun i => d.x0 (i * 4 + 1)) b
theorem podsL_le (d : PlanD) (b : Int) : (podsL d b).length ≤ d.n0 := by
  unfold podsL found
  split
  · exact hits_le _ _ _
  · exact Nat.zero_le _
def hasB (d : PlanD) (b : Nat) : Bool := decide (0 < (podsL d b).length)
def bandsL (d : PlanD) : List Int := picks 6 (hasB d)
theorem bandsL_le (d : PlanD) : (bandsL d).length ≤ 6 := picks_le _ _
def firstOver (l : List Int) (b : Int) : Int := (l.find? (fun x => decide (b < x))).getD (-1)
def nextL (d : PlanD) (b : Int) : Int := firstOver (bandsL d) b
def timeOf (d : PlanD) (i : Nat) : Int := d.x0 (i * 4 + 3) + d.x0 (i * 4 + 2) + 4
def most (d : PlanD) (l : List Int) : Int := l.foldl (fun n i => max n (timeOf d i.toNat)) 0
def bandT (d : PlanD) (b : Int) : Int := if planOkB d then most d (podsL d b) else -1
def sumB : Nat → (Nat → Int) → Int
  | 0, _ => 0
  | k + 1, f => sumB k f + f k
theorem firstOver_none {l : List Int} {b : Int} (h : ∀ x ∈ l, x ≤ b) : firstOver l b = -1 := by
  unfold firstOver
  rw [List.find?_eq_none.2 (fun x hx => by have := h x hx; simp; omega)]
  rfl
theorem firstOver_at {l : List Int} {b : Int} {i : Nat} (hi : i < l.length) (h : ∀ j (hj : j < i), l[j]'(by omega) ≤ b) (hb : b < l[i]) : firstOver l b = l[i] := by
  unfold firstOver
  have e : l.find? (fun x => decide (b < x)) = some l[i] := by
    rw [List.find?_eq_some_iff_getElem]
    exact ⟨by simpa using hb, i, hi, rfl, fun j hj => by have := h j hj; simp; omega⟩
  rw [e]
  rfl

/-- The number ahead of the i-th, -1 ahead of the first. -/
def ahead (l : List Int) (i : Nat) : Int := if i = 0 then -1 else l.getD (i - 1) 0
theorem getD_at {l : List Int} {i : Nat} (hi : i < l.length) : l.getD i 0 = l[i] := by simp [List.getD, hi]
theorem planOk_lock {d : PlanD} (h : planOkB d = true) : 0 ≤ d.l ∧ d.l ≤ 500 ∧ d.n0 ≤ 12 ∧ d.n1 ≤ 4 ∧ d.n2 ≤ 12 ∧ d.n3 ≤ 12 := by
  simp only [planOkB, timesB, sizesB, Bool.and_eq_true, inB_true, decide_eq_true_eq] at h
  obtain ⟨⟨⟨⟨⟨h1, h2⟩, -⟩, -⟩, -⟩, -⟩ := h
  omega

theorem hits_mem {n : Nat} {f : Nat → Int} {b x : Int} (h : x ∈ hits n f b) : ∃ i : Nat, i < n ∧ x = i ∧ f i = b := by
  rw [hits_picks] at h
  obtain ⟨i, h1, h2, h3⟩ := picks_mem h
  exact ⟨i, h1, h2, by simpa using h3⟩
theorem podsL_mem {d : PlanD} {b x : Int} (h : x ∈ podsL d b) : ∃ i : Nat, i < d.n0 ∧ x = i ∧ d.x0 (i * 4 + 1) = b := by
  unfold podsL found at h
  split at h
  · exact hits_mem h
  · cases h
theorem podsL_at {d : PlanD} {b : Int} {j : Nat} (hj : j < (podsL d b).length) : ∃ i : Nat, i < d.n0 ∧ (podsL d b).getD j 0 = i ∧ d.x0 (i * 4 + 1) = b := by
  have e : (podsL d b).getD j 0 = (podsL d b)[j] := by simp [List.getD, hj]
  rw [e]
  exact podsL_mem (List.getElem_mem hj)

theorem bandsL_rise (d : PlanD) : (bandsL d).Pairwise (· < ·) := picks_rise _ _
end Go.Proofs.YtdkmhaghnfhajaaGreat
/- Ra -/
set_option linter.unusedVariables false
namespace Go.Proofs.YtdkmhaghnfhajaaGreat
open Go.RowKit

/-- A number in 7 bits a byte, the lowest ones first. -/
def putN (n : Nat) : List Nat := if h : n < 128 then [n] else (n % 128 + 128) :: putN (n / 128)
termination_by n
decreasing_by omega
theorem putN_small {n : Nat} (h : n < 128) : putN n = [n] := by rw [putN, dif_pos h]
theorem putN_big {n : Nat} (h : ¬ n < 128) : putN n = (n % 128 + 128) :: putN (n / 128) := by rw [putN, dif_neg h]
/-- The number ahead, and what is behind it. -/
def getN : List Nat → Option (Nat × List Nat)
  | [] => none
  | x :: r => if x < 128 then some (x, r) else match getN r with
    | none => none
    | some (n, r') => if n = 0 then none else some (x - 128 + 128 * n, r')
theorem getN_last {x : Nat} {r : List Nat} (h : x < 128) : getN (x :: r) = some (x, r) := by rw [getN, if_pos h]
theorem getN_more {x n : Nat} {r r' : List Nat} (h : ¬ x < 128) (hr : getN r = some (n, r')) (hn : n ≠ 0) : getN (x :: r) = some (x - 128 + 128 * n, r') := by
  simp [getN, if_neg h, hr, hn]
theorem getN_nought {x : Nat} {r r' : List Nat} (h : ¬ x < 128) (hr : getN r = some (0, r')) : getN (x :: r) = none := by simp [getN, if_neg h, hr]
theorem getN_bad {x : Nat} {r : List Nat} (h : ¬ x < 128) (hr : getN r = none) : getN (x :: r) = none := by simp [getN, if_neg h, hr]
theorem getN_putN (n : Nat) (r : List Nat) : getN (putN n ++ r) = some (n, r) := by
  induction n using Nat.strongRecOn with
  | ind n ih =>
    by_cases h : n < 128
    · rw [putN_small h]; exact getN_last h
    · rw [putN_big h, List.cons_append, getN_more (by omega) (ih (n / 128) (by omega)) (by omega)]
      congr 2
      omega
theorem putN_pos (n : Nat) : 0 < (putN n).length := by
  by_cases h : n < 128
  · rw [putN_small h]; simp
  · rw [putN_big h]; simp
theorem putN_length (k n : Nat) : 0 < k → ((putN n).length ≤ k ↔ n < 128 ^ k) := by
  induction k generalizing n with
  | zero => omega
  | succ k ih =>
    intro _
    by_cases h : n < 128
    · rw [putN_small h]
      have : 128 ^ 1 ≤ 128 ^ (k + 1) := Nat.pow_le_pow_right (by omega) (by omega)
      simp
      omega
    · rw [putN_big h, List.length_cons]
      rcases Nat.eq_zero_or_pos k with rfl | hk
      · have := putN_pos (n / 128)
        omega
      · have e := ih (n / 128) hk
        have hp : 128 ^ (k + 1) = 128 ^ k * 128 := Nat.pow_succ ..
        have h2 : n / 128 < 128 ^ k ↔ n < 128 ^ k * 128 := Nat.div_lt_iff_lt_mul (by omega)
        omega
/-- A record's three numbers. -/
structure RecD where
  k : Int
  a : Int
  b : Int
deriving DecidableEq
def recOkB (r : RecD) : Bool := inB r.k 1 12 && inB r.a 0 1000000 && inB r.b 0 1000000
theorem recOkB_true {r : RecD} : recOkB r = true ↔ (1 ≤ r.k ∧ r.k ≤ 12) ∧ (0 ≤ r.a ∧ r.a ≤ 1000000) ∧ (0 ≤ r.b ∧ r.b ≤ 1000000) := by
  simp [recOkB, inB_true, and_assoc]
def recN (r : RecD) : List Nat := putN r.k.toNat ++ (putN r.a.toNat ++ putN r.b.toNat)
def recsN : List RecD → List Nat
  | [] => []
  | r :: l => recN r ++ recsN l
theorem recsN_append (l m : List RecD) : recsN (l ++ m) = recsN l ++ recsN m := by
  induction l with
  | nil => rfl
  | cons r l ih => simp [recsN, ih]
def allOk (l : List RecD) : Bool := l.all recOkB
/-- What is written of records: nothing where they can't be. -/
def writeN (l : List RecD) : Option (List Nat) := if l.length ≤ 80 ∧ allOk l = true then some (putN l.length ++ recsN l) else none
def getRec (b : List Nat) : Option (RecD × List Nat) :=
  match getN b with
  | none => none
  | some (k, b1) => match getN b1 with
    | none => none
    | some (a, b2) => match getN b2 with
      | none => none
      | some (c, b3) => if recOkB ⟨k, a, c⟩ then some (⟨k, a, c⟩, b3) else none
def getRecs : Nat → List Nat → Option (List RecD × List Nat)
  | 0, b => some ([], b)
  | n + 1, b => match getRec b with
    | none => none
    | some (r, b1) => match getRecs n b1 with
      | none => none
      | some (l, b2) => some (r :: l, b2)
/-- What is read of bytes. -/
def readN (b : List Nat) : Option (List RecD) :=
  match getN b with
  | none => none
  | some (n, r) => if 80 < n then none else match getRecs n r with
    | none => none
    | some (l, r2) => if r2 = [] then some l else none

theorem getRec_recN {r : RecD} (h : recOkB r = true) (b : List Nat) : getRec (recN r ++ b) = some (r, b) := by
  have hr := recOkB_true.1 h
  obtain ⟨k, a, c⟩ := r
  dsimp only at hr
  have e : (⟨(k.toNat : Int), (a.toNat : Int), (c.toNat : Int)⟩ : RecD) = ⟨k, a, c⟩ := by congr 1 <;> omega
  simp only [getRec, recN, List.append_assoc, getN_putN, e, h, if_true]
theorem getRecs_recsN {l : List RecD} (h : allOk l = true) (b : List Nat) : getRecs l.length (recsN l ++ b) = some (l, b) := by
  induction l with
  | nil => rfl
  | cons r l ih =>
    simp only [allOk, List.all_cons, Bool.and_eq_true] at h
    simp only [List.length_cons, getRecs, recsN, List.append_assoc, getRec_recN h.1, ih h.2]
/-- What is written is read as it was. -/
theorem read_write {l : List RecD} {b : List Nat} (h : writeN l = some b) : readN b = some l := by
  unfold writeN at h
  split at h
  · rename_i hc
    cases h
    have e := getRecs_recsN hc.2 []
    rw [List.append_nil] at e
    simp only [readN, getN_putN, e, if_true, if_neg (show ¬ 80 < l.length by omega)]
  · cases h
end Go.Proofs.YtdkmhaghnfhajaaGreat
/- Rb -/
set_option linter.unusedVariables false
namespace Go.Proofs.YtdkmhaghnfhajaaGreat
open Go.RowKit

def sumN (b : List Nat) : Nat := b.foldl (fun n x => (31 * n + x) % 65521) 7
theorem sumN_lt (b : List Nat) : sumN b < 65521 := by
  have : ∀ (b : List Nat) (a : Nat), a < 65521 → b.foldl (fun n x => (31 * n + x) % 65521) a < 65521 := fun b => by
    induction b with
    | nil => exact fun a h => h
    | cons x b ih => exact fun a _ => ih _ (Nat.mod_lt _ (by omega))
  exact this b 7 (by omega)
def twoN (n : Nat) : List Nat := [n % 256, n / 256]
def frameN (b : List Nat) : List Nat := twoN b.length ++ (twoN (sumN b) ++ b)
theorem frameN_length (b : List Nat) : (frameN b).length = 4 + b.length := by simp [frameN, twoN]; omega
def at2 (b : List Nat) (i : Nat) : Nat := b.getD i 0 + 256 * b.getD (i + 1) 0
/-- The frame ahead: its records, and how long it is. -/
def getFrame (b : List Nat) : Option (List RecD × Nat) :=
  if b.length < 4 then none else
  if b.length < 4 + at2 b 0 then none else
  if sumN ((b.drop 4).take (at2 b 0)) ≠ at2 b 2 then none else
  match readN ((b.drop 4).take (at2 b 0)) with
  | none => none
  | some l => some (l, 4 + at2 b 0)
theorem getFrame_len {b : List Nat} {l : List RecD} {k : Nat} (h : getFrame b = some (l, k)) : 4 ≤ k ∧ k ≤ b.length := by
  unfold getFrame at h
  split at h
  · cases h
  split at h
  · cases h
  split at h
  · cases h
  split at h
  · cases h
  cases h
  omega
/-- All frames ahead, as far as they are whole: their lists, and how many bytes they are. -/
def framesN (b : List Nat) : List (List RecD) × Nat :=
  match h : getFrame b with
  | none => ([], 0)
  | some (l, k) => (l :: (framesN (b.drop k)).1, k + (framesN (b.drop k)).2)
termination_by b.length
decreasing_by all_goals (have := getFrame_len h; simp; omega)
theorem framesN_none {b : List Nat} (h : getFrame b = none) : framesN b = ([], 0) := by
  rw [framesN]
  split
  · rfl
  · rename_i e; rw [h] at e; cases e
theorem framesN_some {b : List Nat} {l : List RecD} {k : Nat} (h : getFrame b = some (l, k)) : framesN b = (l :: (framesN (b.drop k)).1, k + (framesN (b.drop k)).2) := by
  rw [framesN]
  split
  · rename_i e; rw [h] at e; cases e
  · rename_i l' k' e
    rw [h] at e
    cases e
    rfl
theorem framesN_short {b : List Nat} (h : b.length < 4) : framesN b = ([], 0) := framesN_none (by unfold getFrame; rw [if_pos h])
theorem framesN_nil : framesN [] = ([], 0) := framesN_short (by simp)

theorem getFrame_more {b c : List Nat} {l : List RecD} {k : Nat} (h : getFrame b = some (l, k)) : getFrame (b ++ c) = some (l, k) := by
  unfold getFrame at h
  split at h
  · cases h
  rename_i h1
  have g : ∀ i, i < b.length → (b ++ c).getD i 0 = b.getD i 0 := fun i hi => by simp [List.getD, List.getElem?_append_left hi]
  have e0 : at2 (b ++ c) 0 = at2 b 0 := by unfold at2; rw [g 0 (by omega), g 1 (by omega)]
  have e2 : at2 (b ++ c) 2 = at2 b 2 := by unfold at2; rw [g 2 (by omega), g 3 (by omega)]
  split at h
  · cases h
  rename_i h2
  have e3 : ((b ++ c).drop 4).take (at2 b 0) = (b.drop 4).take (at2 b 0) := by
    rw [List.drop_append_of_le_length (by omega), List.take_append_of_le_length (by simp; omega)]
  split at h
  · cases h
  rename_i h3
  split at h
  · cases h
  rename_i l' h4
  cases h
  unfold getFrame
  rw [if_neg (by simp; omega), e0, if_neg (by simp; omega), e3, e2, if_neg h3, h4]
/-- What is whole stays so, whatever comes behind. -/
theorem framesN_append {b c : List Nat} (h : (framesN b).2 = b.length) : framesN (b ++ c) = ((framesN b).1 ++ (framesN c).1, b.length + (framesN c).2) := by
  induction hn : b.length using Nat.strongRecOn generalizing b with
  | ind n ih =>
    cases hg : getFrame b with
    | none =>
      rw [framesN_none hg] at h
      have : b = [] := List.eq_nil_of_length_eq_zero h.symm
      subst this
      simp at hn
      subst hn
      rw [framesN_nil]
      simp
    | some q =>
      obtain ⟨l, k⟩ := q
      have hk := getFrame_len hg
      rw [framesN_some hg] at h ⊢
      have h' : (framesN (b.drop k)).2 = (b.drop k).length := by simp at h ⊢; omega
      have e := ih (b.drop k).length (by simp; omega) h' rfl
      rw [framesN_some (getFrame_more hg), List.drop_append_of_le_length hk.2, e]
      simp
      omega

theorem at2_frame0 (b c : List Nat) : at2 (frameN b ++ c) 0 = b.length := by
  simp [at2, frameN, twoN]
  omega
theorem at2_frame2 (b c : List Nat) : at2 (frameN b ++ c) 2 = sumN b := by
  have := sumN_lt b
  simp [at2, frameN, twoN]
  omega
theorem drop_frame (b c : List Nat) : (frameN b ++ c).drop 4 = b ++ c := by simp [frameN, twoN]
theorem getFrame_frameN {b : List Nat} {l : List RecD} (h : readN b = some l) (c : List Nat) : getFrame (frameN b ++ c) = some (l, 4 + b.length) := by
  have e : (b ++ c).take b.length = b := by simp
  unfold getFrame
  rw [if_neg (by simp [frameN_length]; omega), at2_frame0, if_neg (by simp [frameN_length]), drop_frame, e, at2_frame2, if_neg (by simp), h]
theorem framesN_frame {b : List Nat} {l : List RecD} (h : readN b = some l) : framesN (frameN b) = ([l], (frameN b).length) := by
  have e := getFrame_frameN h []
  rw [List.append_nil] at e
  have e3 : (frameN b).drop (4 + b.length) = [] := List.drop_eq_nil_of_le (by rw [frameN_length]; omega)
  rw [framesN_some e, e3, framesN_nil, frameN_length]
  rfl
/-- Behind whole frames: one more is read, too; one that is torn is not. -/
theorem framesN_one {b c : List Nat} {ls : List (List RecD)} {l : List RecD} (hb : framesN b = (ls, b.length)) (h : readN c = some l) : framesN (b ++ frameN c) = (ls ++ [l], (b ++ frameN c).length) := by
  rw [framesN_append (by rw [hb]), framesN_frame h, hb]
  simp
end Go.Proofs.YtdkmhaghnfhajaaGreat
/- Rc -/
set_option linter.unusedVariables false
namespace Go.Proofs.YtdkmhaghnfhajaaGreat
open Go.RowKit

/-- The number ahead where it is less than m, and what is behind it. -/
def num (m : Nat) (L : List Nat) : Option (Nat × List Nat) := (getN L).bind fun p => if p.1 < m then some p else none
theorem num_some {m n : Nat} {L r : List Nat} : num m L = some (n, r) ↔ getN L = some (n, r) ∧ n < m := by
  unfold num
  cases h : getN L with
  | none => simp
  | some p =>
    obtain ⟨n', r'⟩ := p
    simp only [Option.bind_some, Option.some.injEq, Prod.mk.injEq]
    by_cases hl : n' < m
    · rw [if_pos hl]; simp; intro h1 h2; omega
    · rw [if_neg hl]; simp; intro h1 h2; omega
theorem num_none {m : Nat} {L : List Nat} : num m L = none ↔ ∀ n r, getN L = some (n, r) → ¬ n < m := by
  constructor
  · intro h n r hg hl
    rw [num_some.2 ⟨hg, hl⟩] at h
    cases h
  · intro h
    cases e : num m L with
    | none => rfl
    | some p => obtain ⟨n, r⟩ := p; obtain ⟨h1, h2⟩ := num_some.1 e; exact absurd h2 (h n r h1)
/-- What the first k bytes tell. -/
def lowN : Nat → List Nat → Nat
  | 0, _ => 0
  | _ + 1, [] => 0
  | k + 1, x :: r => x % 128 + 128 * lowN k r
theorem lowN_succ (k : Nat) (L : List Nat) : lowN (k + 1) L = lowN k L + L.getD k 0 % 128 * 128 ^ k := by
  induction k generalizing L with
  | zero => cases L <;> simp [lowN]
  | succ k ih =>
    cases L with
    | nil => simp [lowN]
    | cons x r =>
      rw [lowN, ih r, lowN]
      simp only [List.getD_cons_succ]
      rw [Nat.pow_succ, ← Nat.mul_assoc]
      generalize r.getD k 0 % 128 * 128 ^ k = q
      omega
theorem lowN_lt (k : Nat) (L : List Nat) : lowN k L < 128 ^ k := by
  induction k generalizing L with
  | zero => simp [lowN]
  | succ k ih =>
    cases L with
    | nil => simp [lowN]; exact Nat.pow_pos (by omega)
    | cons x r => rw [lowN, Nat.pow_succ]; have := ih r; omega
theorem getN_at {k : Nat} : ∀ {L : List Nat}, k < L.length → (∀ j, j < k → 128 ≤ L.getD j 0) → L.getD k 0 < 128 → (∀ x ∈ L, x < 256) →
    getN L = if k = 0 ∨ 0 < L.getD k 0 then some (lowN (k + 1) L, L.drop (k + 1)) else none := by
  induction k with
  | zero =>
    intro L hk _ hl _
    cases L with
    | nil => simp at hk
    | cons x r =>
      simp at hl
      rw [getN_last hl, if_pos (.inl rfl)]
      simp [lowN]
      omega
  | succ k ih =>
    intro L hk hj hl hb
    cases L with
    | nil => simp at hk
    | cons x r =>
      have hx := hj 0 (by omega)
      have hx2 := hb x (by simp)
      simp only [List.getD_cons_zero] at hx
      simp only [List.getD_cons_succ] at hl ⊢
      have e := ih (L := r) (by simpa using hk) (fun j h => by have := hj (j + 1) (by omega); simpa using this) hl (fun y hy => hb y (by simp [hy]))
      by_cases hz : 0 < r.getD k 0
      · rw [if_pos (.inr hz)] at e
        rw [if_pos (.inr hz), getN_more (by omega) e]
        · simp [lowN]; omega
        · have := lowN_succ k r
          have h2 : 0 < r.getD k 0 % 128 * 128 ^ k := Nat.mul_pos (by rw [Nat.mod_eq_of_lt hl]; exact hz) (Nat.pow_pos (by omega))
          omega
      · rw [if_neg (by omega)]
        by_cases hk0 : k = 0
        · subst hk0
          rw [if_pos (.inl rfl)] at e
          have h1 := lowN_succ 0 r
          have h0 : r.getD 0 0 = 0 := by omega
          rw [h0] at h1
          have : lowN 1 r = 0 := by simpa [lowN] using h1
          rw [this] at e
          exact getN_nought (by omega) e
        · rw [if_neg (by omega)] at e
          exact getN_bad (by omega) e
theorem getN_end {m : Nat} : ∀ {L : List Nat}, (∀ j, j < m → j < L.length → 128 ≤ L.getD j 0) → ∀ n r, getN L = some (n, r) → n ≠ 0 → 128 ^ m ≤ n := by
  induction m with
  | zero => intro L _ n r _ hn; simp; omega
  | succ m ih =>
    intro L hj n r hg hn
    cases L with
    | nil => cases hg
    | cons x t =>
      have hx := hj 0 (by omega) (by simp)
      simp only [List.getD_cons_zero] at hx
      cases hq : getN t with
      | none => rw [getN_bad (by omega) hq] at hg; cases hg
      | some q =>
        obtain ⟨k, r'⟩ := q
        by_cases h0 : k = 0
        · subst h0; rw [getN_nought (by omega) hq] at hg; cases hg
        · rw [getN_more (by omega) hq h0] at hg
          cases hg
          have := ih (L := t) (fun j h1 h2 => by have := hj (j + 1) (by omega) (by simpa using h2); simpa using this) k r hq h0
          rw [Nat.pow_succ]
          omega
/-- A number whose last byte is the (k+1)th, k less than K. -/
theorem num_at {k K : Nat} {L : List Nat} (hK : k < K) (hk : k < L.length) (hj : ∀ j, j < k → 128 ≤ L.getD j 0) (hl : L.getD k 0 < 128) (hb : ∀ x ∈ L, x < 256) (hz : k = 0 ∨ 0 < L.getD k 0) :
    num (128 ^ K) L = some (lowN (k + 1) L, L.drop (k + 1)) := by
  have e := getN_at hk hj hl hb
  rw [if_pos hz] at e
  exact num_some.2 ⟨e, Nat.lt_of_lt_of_le (lowN_lt _ _) (Nat.pow_le_pow_right (by omega) hK)⟩
theorem num_bad {k m : Nat} {L : List Nat} (hk : k < L.length) (hj : ∀ j, j < k → 128 ≤ L.getD j 0) (hl : L.getD k 0 < 128) (hb : ∀ x ∈ L, x < 256) (hz : ¬ (k = 0 ∨ 0 < L.getD k 0)) :
    num m L = none := by
  have e := getN_at hk hj hl hb
  rw [if_neg hz] at e
  exact num_none.2 fun n r h => by rw [e] at h; cases h
theorem num_end {K : Nat} {L : List Nat} (hK : 0 < K) (hj : ∀ j, j < K → j < L.length → 128 ≤ L.getD j 0) : num (128 ^ K) L = none := by
  refine num_none.2 fun n r h hl => ?_
  have hn : n ≠ 0 := by
    intro e
    subst e
    cases L with
    | nil => cases h
    | cons x t =>
      have hx := hj 0 hK (by simp)
      simp only [List.getD_cons_zero] at hx
      cases hq : getN t with
      | none => rw [getN_bad (by omega) hq] at h; cases h
      | some q =>
        obtain ⟨k, r'⟩ := q
        by_cases h0 : k = 0
        · subst h0; rw [getN_nought (by omega) hq] at h; cases h
        · rw [getN_more (by omega) hq h0] at h
          injection h with h
          injection h with h _
          omega
  have := getN_end hj n r h hn
  omega

/-- A record read of numbers that are less than m: the same, as no record has a number that is more than a million. -/
theorem getRec_num {m : Nat} (hm : 1000000 < m) (L : List Nat) : getRec L =
    (num m L).bind fun p => (num m p.2).bind fun q => (num m q.2).bind fun s => if recOkB ⟨p.1, q.1, s.1⟩ then some (⟨p.1, q.1, s.1⟩, s.2) else none := by
  have hno : ∀ {k a b : Nat}, (m ≤ k ∨ m ≤ a ∨ m ≤ b) → recOkB ⟨k, a, b⟩ = false := fun {k a b} h => by
    cases e : recOkB ⟨k, a, b⟩
    · rfl
    · have := recOkB_true.1 e
      dsimp only at this
      omega
  unfold getRec num
  cases h1 : getN L with
  | none => rfl
  | some p =>
    obtain ⟨k, r1⟩ := p
    dsimp only [Option.bind_some]
    cases h2 : getN r1 with
    | none => by_cases hk : k < m <;> simp [hk, h2]
    | some q =>
      obtain ⟨a, r2⟩ := q
      dsimp only
      cases h3 : getN r2 with
      | none => by_cases hk : k < m <;> by_cases ha : a < m <;> simp [hk, ha, h2, h3]
      | some s =>
        obtain ⟨b, r3⟩ := s
        dsimp only
        by_cases hk : k < m
        · by_cases ha : a < m
          · by_cases hb : b < m
            · simp [hk, ha, hb, h2, h3]
            · rw [hno (.inr (.inr (by omega)))]
              simp [hk, ha, hb, h2, h3]
          · rw [hno (.inr (.inl (by omega)))]
            simp [hk, ha, h2]
        · rw [hno (.inl (by omega))]
          simp [hk]
/-- What is read of bytes, by such numbers. -/
theorem readN_num {m : Nat} (hm : 80 < m) (L : List Nat) : readN L = (num m L).bind fun p => if 80 < p.1 then none else (getRecs p.1 p.2).bind fun q => if q.2 = [] then some q.1 else none := by
  unfold readN num
  cases h1 : getN L with
  | none => rfl
  | some p =>
    obtain ⟨n, r⟩ := p
    dsimp only [Option.bind_some]
    by_cases hn : n < m
    · rw [if_pos hn]
      dsimp only [Option.bind_some]
      by_cases h8 : 80 < n
      · rw [if_pos h8, if_pos h8]
      · rw [if_neg h8, if_neg h8]
        cases getRecs n r with
        | none => rfl
        | some q => rfl
    · rw [if_neg hn, if_pos (by omega)]
      rfl
theorem getRecs_zero (L : List Nat) : getRecs 0 L = some ([], L) := rfl
theorem getRecs_succ (n : Nat) (L : List Nat) : getRecs (n + 1) L = (getRec L).bind fun p => (getRecs n p.2).map fun q => (p.1 :: q.1, q.2) := by
  rw [getRecs]
  cases getRec L with
  | none => rfl
  | some p =>
    obtain ⟨r, b⟩ := p
    dsimp only [Option.bind_some]
    cases getRecs n b with
    | none => rfl
    | some q => rfl
end Go.Proofs.YtdkmhaghnfhajaaGreat
/- Ta -/
set_option linter.unusedVariables false
namespace Go.Proofs.YtdkmhaghnfhajaaGreat
open Go.RowKit

structure StD where
  ph : Int
  co : Bool
  ck : Int
  bo : Int
  ba : Int
  lb : Int
  pods : List (Int × Int)
  mnts : List (Bool × Int)
  devs : List Bool
  lks : List Int
  gd : Int
  pr : Int
deriving DecidableEq

def zeroS : StD := ⟨0, false, 0, 0, 0, 0, [], [], [], [], 0, 0⟩

/-- A state is right. -/
structure StOk (d : PlanD) (s : StD) : Prop where
  plan : planOkB d = true
  ph : 0 ≤ s.ph ∧ s.ph ≤ 8
  co : s.co = decide (s.ph ≠ 0)
  ck : 0 ≤ s.ck ∧ s.ck ≤ 1000000
  bo : 0 ≤ s.bo ∧ s.bo ≤ 1000000
  ba : 0 ≤ s.ba ∧ s.ba ≤ 6
  lb : 0 ≤ s.lb ∧ s.lb ≤ 1000000
  gd : 0 ≤ s.gd ∧ s.gd ≤ s.pr
  pr : s.pr ≤ d.t
  np : s.pods.length = d.n0
  nm : s.mnts.length = d.n2
  nd : s.devs.length = d.n3
  pods : ∀ q ∈ s.pods, (0 ≤ q.1 ∧ q.1 ≤ 6) ∧ (0 ≤ q.2 ∧ q.2 ≤ 1000000)
  mnts : ∀ q ∈ s.mnts, (0 ≤ q.2 ∧ q.2 ≤ 5) ∧ (q.1 = false → q.2 = 0)
  lks : ∀ x ∈ s.lks, 0 ≤ x ∧ x ≤ 7
  rise : s.lks.Pairwise (· < ·)

def stOkB (d : PlanD) (s : StD) : Bool :=
  planOkB d && inB s.ph 0 8 && (s.co == decide (s.ph ≠ 0)) && inB s.ck 0 1000000 && inB s.bo 0 1000000 && inB s.ba 0 6 && inB s.lb 0 1000000 && inB s.gd 0 s.pr && decide (s.pr ≤ d.t) &&
  decide (s.pods.length = d.n0) && decide (s.mnts.length = d.n2) && decide (s.devs.length = d.n3) &&
  s.pods.all (fun q => inB q.1 0 6 && inB q.2 0 1000000) && s.mnts.all (fun q => inB q.2 0 5 && (q.1 || q.2 == 0)) && s.lks.all (fun x => inB x 0 7) && decide (s.lks.Pairwise (· < ·))
theorem stOkB_iff {d : PlanD} {s : StD} : stOkB d s = true ↔ StOk d s := by
  simp only [stOkB, Bool.and_eq_true, inB_true, beq_iff_eq, decide_eq_true_eq, List.all_eq_true, Bool.or_eq_true]
  constructor
  · rintro ⟨⟨⟨⟨⟨⟨⟨⟨⟨⟨⟨⟨⟨⟨⟨h1, h2⟩, h3⟩, h4⟩, h5⟩, h6⟩, h7⟩, h8⟩, h9⟩, h10⟩, h11⟩, h12⟩, h13⟩, h14⟩, h15⟩, h16⟩
    exact ⟨h1, h2, h3, h4, h5, h6, h7, h8, h9, h10, h11, h12, h13, fun q hq => ⟨(h14 q hq).1, fun hf => ((h14 q hq).2.resolve_left (by rw [hf]; decide))⟩, h15, h16⟩
  · rintro ⟨h1, h2, h3, h4, h5, h6, h7, h8, h9, h10, h11, h12, h13, h14, h15, h16⟩
    refine ⟨⟨⟨⟨⟨⟨⟨⟨⟨⟨⟨⟨⟨⟨⟨h1, h2⟩, h3⟩, h4⟩, h5⟩, h6⟩, h7⟩, h8⟩, h9⟩, h10⟩, h11⟩, h12⟩, h13⟩, fun q hq => ⟨(h14 q hq).1, ?_⟩⟩, h15⟩, h16⟩
    cases hb : q.1
    · exact .inr ((h14 q hq).2 hb)
    · exact .inl rfl

/-- Chapter 5's new state. -/
def newS (d : PlanD) : StD := if planOkB d then { zeroS with pods := List.replicate d.n0 (0, 0), mnts := List.replicate d.n2 (true, 0), devs := List.replicate d.n3 true } else zeroS
theorem planOk_tries {d : PlanD} (h : planOkB d = true) : 1 ≤ d.p ∧ d.p ≤ 9 ∧ d.p ≤ d.t ∧ d.t ≤ 30 := by
  simp only [planOkB, timesB, sizesB, Bool.and_eq_true, inB_true, decide_eq_true_eq] at h
  obtain ⟨⟨⟨⟨⟨h1, h2⟩, -⟩, -⟩, -⟩, -⟩ := h
  omega
theorem newS_ok {d : PlanD} (h : planOkB d = true) : StOk d (newS d) := by
  have := planOk_tries h
  unfold newS
  rw [if_pos h]
  refine ⟨h, ?_, rfl, ?_, ?_, ?_, ?_, ?_, ?_, ?_, ?_, ?_, ?_, ?_, ?_, ?_⟩ <;> simp [zeroS]
  omega

def aliveB (x : Int) : Bool := inB x 0 3
def liveL (s : StD) : List Int := picks s.pods.length (fun i => aliveB (s.pods.getD i (0, 0)).1)

/-- A list that rises, with a number, and without it. -/
def withN (n : Int) : List Int → List Int
  | [] => [n]
  | x :: l => if n < x then n :: x :: l else if n = x then x :: l else x :: withN n l
def withoutN (l : List Int) (n : Int) : List Int := l.filter (fun x => x != n)
theorem withN_mem {n x : Int} {l : List Int} : x ∈ withN n l ↔ x = n ∨ x ∈ l := by
  induction l with
  | nil => simp [withN]
  | cons y l ih =>
    unfold withN
    split
    · simp
    · split
      · rename_i h; subst h; simp
      · simp only [List.mem_cons, ih]
        constructor
        · rintro (h | h | h) <;> simp [h]
        · rintro (h | h | h) <;> simp [h]
theorem withN_rise {n : Int} {l : List Int} (h : l.Pairwise (· < ·)) : (withN n l).Pairwise (· < ·) := by
  induction l with
  | nil => simp [withN]
  | cons y l ih =>
    obtain ⟨h1, h2⟩ := List.pairwise_cons.1 h
    unfold withN
    split
    · rename_i hn
      refine List.pairwise_cons.2 ⟨fun z hz => ?_, h⟩
      rcases List.mem_cons.1 hz with rfl | hz
      · exact hn
      · have := h1 z hz; omega
    · split
      · exact h
      · refine List.pairwise_cons.2 ⟨fun z hz => ?_, ih h2⟩
        rcases withN_mem.1 hz with rfl | hz
        · omega
        · exact h1 z hz
theorem withoutN_mem {n x : Int} {l : List Int} (h : x ∈ withoutN l n) : x ∈ l ∧ x ≠ n := by
  simpa [withoutN] using h
theorem withoutN_rise {n : Int} {l : List Int} (h : l.Pairwise (· < ·)) : (withoutN l n).Pairwise (· < ·) := h.sublist List.filter_sublist

/-- What one record makes of a state. -/
def applyR (s : StD) (r : RecD) : StD :=
  if r.k = 1 then (if r.a = 0 then { s with ph := 0, co := false, gd := 0, pr := 0, lks := [] } else { s with ph := r.a, co := true })
  else if r.k = 2 then { s with pods := s.pods.set r.a.toNat (r.b, s.ck) }
  else if r.k = 3 then { s with mnts := s.mnts.set r.a.toNat ((s.mnts.getD r.a.toNat (false, 0)).1, r.b) }
  else if r.k = 4 then { s with mnts := s.mnts.set r.a.toNat (false, 0) }
  else if r.k = 5 then { s with devs := s.devs.set r.a.toNat false }
  else if r.k = 6 then { s with lks := withN r.a s.lks }
  else if r.k = 7 then { s with lks := withoutN s.lks r.a }
  else if r.k = 8 then { s with ck := r.a }
  else if r.k = 9 then { s with ba := r.a }
  else if r.k = 10 then { s with bo := r.a }
  else if r.k = 11 then { s with lb := r.a }
  else if r.k = 12 then { s with gd := r.a, pr := r.b }
  else s
/-- Is there what a record names? -/
def thereB (s : StD) (r : RecD) : Bool :=
  if r.k = 2 then decide (r.a < s.pods.length) else if r.k = 3 ∨ r.k = 4 then decide (r.a < s.mnts.length) else if r.k = 5 then decide (r.a < s.devs.length) else true

/-- Chapter 6: one record; all of them. -/
def goodR (d : PlanD) (s : StD) (r : RecD) : Bool := recOkB r && thereB s r && stOkB d (applyR s r)
def appliedS (d : PlanD) (s : StD) (r : RecD) : StD × Bool := if stOkB d s then (if goodR d s r then (applyR s r, true) else (s, false)) else (zeroS, false)
def runR (d : PlanD) : StD → List RecD → Option StD
  | s, [] => some s
  | s, r :: l => if goodR d s r then runR d (applyR s r) l else none
def appliedL (d : PlanD) (s : StD) (l : List RecD) : StD × Bool :=
  if stOkB d s then (match runR d s l with | some x => (x, true) | none => (s, false)) else (zeroS, false)
theorem runR_append {d : PlanD} {l m : List RecD} {s : StD} : runR d s (l ++ m) = (runR d s l).bind (fun x => runR d x m) := by
  induction l generalizing s with
  | nil => rfl
  | cons r l ih =>
    simp only [List.cons_append, runR]
    split
    · exact ih
    · rfl
theorem runR_ok {d : PlanD} {l : List RecD} {s x : StD} (h : StOk d s) (hr : runR d s l = some x) : StOk d x := by
  induction l generalizing s with
  | nil => cases hr; exact h
  | cons r l ih =>
    simp only [runR] at hr
    split at hr
    · rename_i hg
      simp only [goodR, Bool.and_eq_true] at hg
      exact ih (stOkB_iff.1 hg.2) hr
    · cases hr

theorem set_all {α : Type} {l : List α} {i : Nat} {x : α} {p : α → Prop} (h : ∀ q ∈ l, p q) (hx : p x) : ∀ q ∈ l.set i x, p q := fun q hq => by
  rcases List.mem_or_eq_of_mem_set hq with h1 | h1
  · exact h q h1
  · subst h1; exact hx

section
variable {d : PlanD} {s : StD} (h : StOk d s)
include h
theorem ok_clock {c : Int} (hc : 0 ≤ c ∧ c ≤ 1000000) : StOk d (applyR s ⟨8, c, 0⟩) := by
  obtain ⟨h1, h2, h3, h4, h5, h6, h7, h8, h9, h10, h11, h12, h13, h14, h15, h16⟩ := h
  exact ⟨h1, h2, h3, hc, h5, h6, h7, h8, h9, h10, h11, h12, h13, h14, h15, h16⟩
theorem ok_band {c : Int} (hc : 0 ≤ c ∧ c ≤ 6) : StOk d (applyR s ⟨9, c, 0⟩) := by
  obtain ⟨h1, h2, h3, h4, h5, h6, h7, h8, h9, h10, h11, h12, h13, h14, h15, h16⟩ := h
  exact ⟨h1, h2, h3, h4, h5, hc, h7, h8, h9, h10, h11, h12, h13, h14, h15, h16⟩
theorem ok_boot {c : Int} (hc : 0 ≤ c ∧ c ≤ 1000000) : StOk d (applyR s ⟨10, c, 0⟩) := by
  obtain ⟨h1, h2, h3, h4, h5, h6, h7, h8, h9, h10, h11, h12, h13, h14, h15, h16⟩ := h
  exact ⟨h1, h2, h3, h4, hc, h6, h7, h8, h9, h10, h11, h12, h13, h14, h15, h16⟩
theorem ok_lockBy {c : Int} (hc : 0 ≤ c ∧ c ≤ 1000000) : StOk d (applyR s ⟨11, c, 0⟩) := by
  obtain ⟨h1, h2, h3, h4, h5, h6, h7, h8, h9, h10, h11, h12, h13, h14, h15, h16⟩ := h
  exact ⟨h1, h2, h3, h4, h5, h6, hc, h8, h9, h10, h11, h12, h13, h14, h15, h16⟩
theorem ok_probe {a b : Int} (ha : 0 ≤ a ∧ a ≤ b) (hb : b ≤ d.t) : StOk d (applyR s ⟨12, a, b⟩) := by
  obtain ⟨h1, h2, h3, h4, h5, h6, h7, h8, h9, h10, h11, h12, h13, h14, h15, h16⟩ := h
  exact ⟨h1, h2, h3, h4, h5, h6, h7, ha, hb, h10, h11, h12, h13, h14, h15, h16⟩
theorem ok_idle {b : Int} : StOk d (applyR s ⟨1, 0, b⟩) := by
  have := planOk_tries h.plan
  obtain ⟨h1, h2, h3, h4, h5, h6, h7, h8, h9, h10, h11, h12, h13, h14, h15, h16⟩ := h
  exact ⟨h1, ⟨Int.le_refl _, show (0 : Int) ≤ 8 by decide⟩, rfl, h4, h5, h6, h7, ⟨Int.le_refl _, Int.le_refl _⟩, show (0 : Int) ≤ d.t by omega, h10, h11, h12, h13, h14, fun x hx => (by cases hx), List.Pairwise.nil⟩
theorem ok_phase {c b : Int} (hc : 1 ≤ c ∧ c ≤ 8) : StOk d (applyR s ⟨1, c, b⟩) := by
  obtain ⟨h1, h2, h3, h4, h5, h6, h7, h8, h9, h10, h11, h12, h13, h14, h15, h16⟩ := h
  have hn : ¬ c = 0 := by omega
  simp only [applyR, if_pos, if_neg hn]
  exact ⟨h1, ⟨by show 0 ≤ c; omega, hc.2⟩, by show true = decide (c ≠ 0); simp [hn], h4, h5, h6, h7, h8, h9, h10, h11, h12, h13, h14, h15, h16⟩
theorem ok_pod {i st : Int} (hs : 0 ≤ st ∧ st ≤ 6) : StOk d (applyR s ⟨2, i, st⟩) := by
  obtain ⟨h1, h2, h3, h4, h5, h6, h7, h8, h9, h10, h11, h12, h13, h14, h15, h16⟩ := h
  exact ⟨h1, h2, h3, h4, h5, h6, h7, h8, h9, by simpa [applyR] using h10, h11, h12, set_all h13 ⟨hs, h4⟩, h14, h15, h16⟩
theorem ok_busy {i n : Int} (hn : 0 ≤ n ∧ n ≤ 5) (hh : (s.mnts.getD i.toNat (false, 0)).1 = true) : StOk d (applyR s ⟨3, i, n⟩) := by
  obtain ⟨h1, h2, h3, h4, h5, h6, h7, h8, h9, h10, h11, h12, h13, h14, h15, h16⟩ := h
  exact ⟨h1, h2, h3, h4, h5, h6, h7, h8, h9, h10, by simpa [applyR] using h11, h12, h13, set_all h14 ⟨hn, fun hf => by rw [hh] at hf; cases hf⟩, h15, h16⟩
theorem ok_free {i b : Int} : StOk d (applyR s ⟨4, i, b⟩) := by
  obtain ⟨h1, h2, h3, h4, h5, h6, h7, h8, h9, h10, h11, h12, h13, h14, h15, h16⟩ := h
  exact ⟨h1, h2, h3, h4, h5, h6, h7, h8, h9, h10, by simpa [applyR] using h11, h12, h13, set_all h14 ⟨⟨Int.le_refl _, by decide⟩, fun _ => rfl⟩, h15, h16⟩
theorem ok_give {i b : Int} : StOk d (applyR s ⟨5, i, b⟩) := by
  obtain ⟨h1, h2, h3, h4, h5, h6, h7, h8, h9, h10, h11, h12, h13, h14, h15, h16⟩ := h
  exact ⟨h1, h2, h3, h4, h5, h6, h7, h8, h9, h10, h11, by simpa [applyR] using h12, h13, h14, h15, h16⟩
theorem ok_lock {x b : Int} (hx : 0 ≤ x ∧ x ≤ 7) : StOk d (applyR s ⟨6, x, b⟩) := by
  obtain ⟨h1, h2, h3, h4, h5, h6, h7, h8, h9, h10, h11, h12, h13, h14, h15, h16⟩ := h
  exact ⟨h1, h2, h3, h4, h5, h6, h7, h8, h9, h10, h11, h12, h13, h14, fun y hy => by
    rcases withN_mem.1 hy with rfl | hy
    · exact hx
    · exact h15 y hy, withN_rise h16⟩
theorem ok_unlock {x b : Int} : StOk d (applyR s ⟨7, x, b⟩) := by
  obtain ⟨h1, h2, h3, h4, h5, h6, h7, h8, h9, h10, h11, h12, h13, h14, h15, h16⟩ := h
  exact ⟨h1, h2, h3, h4, h5, h6, h7, h8, h9, h10, h11, h12, h13, h14, fun y hy => h15 y (withoutN_mem hy).1, withoutN_rise h16⟩
end

/-- Chapter 7. -/
def podStep (hook grace : Int) (q : Int × Int) (clock : Int) : Int :=
  if q.1 = 0 then (if 0 < hook then 1 else 2) else if q.1 = 1 then (if hook ≤ clock - q.2 then 2 else 1) else if q.1 = 2 then (if grace ≤ clock - q.2 then 3 else 2) else if q.1 = 3 then 4 else q.1
def afterHook (x : Int) : Int := if x = 1 then 2 else -1
def afterExit (x : Int) : Int := if x = 0 ∨ x = 1 then 5 else if x = 2 ∨ x = 3 then 4 else -1
end Go.Proofs.YtdkmhaghnfhajaaGreat
/- Tb -/
set_option linter.unusedVariables false
namespace Go.Proofs.YtdkmhaghnfhajaaGreat
open Go.RowKit

/-- Of each index below n for which g tells something, in order, what r makes of it. -/
def recsOf {α : Type} (n : Nat) (g : Nat → Option α) (r : Nat → α → RecD) : List RecD := (List.range n).filterMap fun i => (g i).map (r i)
theorem recsOf_zero {α : Type} (g : Nat → Option α) (r : Nat → α → RecD) : recsOf 0 g r = [] := rfl
theorem recsOf_none {α : Type} {n : Nat} {g : Nat → Option α} {r : Nat → α → RecD} (h : g n = none) : recsOf (n + 1) g r = recsOf n g r := by
  simp [recsOf, List.range_succ, List.filterMap_append, h]
theorem recsOf_some {α : Type} {n : Nat} {g : Nat → Option α} {r : Nat → α → RecD} {x : α} (h : g n = some x) : recsOf (n + 1) g r = recsOf n g r ++ [r n x] := by
  simp [recsOf, List.range_succ, List.filterMap_append, h]
theorem recsOf_le {α : Type} (n : Nat) (g : Nat → Option α) (r : Nat → α → RecD) : (recsOf n g r).length ≤ n := by
  induction n with
  | zero => exact Nat.le_refl _
  | succ n ih =>
    cases h : g n
    · rw [recsOf_none h]; omega
    · rw [recsOf_some h, List.length_append]; simp; omega

/-- A list whose elements below n are changed where g tells. -/
def turn {α β : Type} (l : List β) (n : Nat) (g : Nat → Option α) (f : Nat → β → α → β) : List β := l.mapIdx fun i q => if i < n then (match g i with | some x => f i q x | none => q) else q
theorem turn_length {α β : Type} (l : List β) (n : Nat) (g : Nat → Option α) (f : Nat → β → α → β) : (turn l n g f).length = l.length := by simp [turn]
theorem turn_get {α β : Type} {l : List β} {n : Nat} {g : Nat → Option α} {f : Nat → β → α → β} {i : Nat} : (turn l n g f)[i]? = (l[i]?).map fun q => if i < n then (match g i with | some x => f i q x | none => q) else q := by
  simp [turn, List.getElem?_mapIdx]
theorem turn_zero {α β : Type} (l : List β) (g : Nat → Option α) (f : Nat → β → α → β) : turn l 0 g f = l := by
  refine List.ext_getElem? fun i => ?_
  rw [turn_get]
  simp
theorem turn_none {α β : Type} {l : List β} {n : Nat} {g : Nat → Option α} {f : Nat → β → α → β} (h : g n = none) : turn l (n + 1) g f = turn l n g f := by
  refine List.ext_getElem? fun i => ?_
  rw [turn_get, turn_get]
  congr 1
  funext q
  by_cases e : i = n
  · subst e; simp [h]
  · by_cases e2 : i < n
    · rw [if_pos (by omega), if_pos e2]
    · rw [if_neg (by omega), if_neg e2]
theorem turn_some {α β : Type} {l : List β} {n : Nat} {g : Nat → Option α} {f : Nat → β → α → β} {x : α} {q : β} (h : g n = some x) (hq : l[n]? = some q) : turn l (n + 1) g f = (turn l n g f).set n (f n q x) := by
  refine List.ext_getElem? fun i => ?_
  rw [turn_get, List.getElem?_set, turn_length]
  by_cases e : n = i
  · subst e
    rw [if_pos rfl, hq, if_pos (List.getElem?_eq_some_iff.1 hq).1]
    simp [h]
  · rw [if_neg e, turn_get]
    congr 1
    funext q
    by_cases e2 : i < n
    · rw [if_pos (by omega), if_pos e2]
    · rw [if_neg (by omega), if_neg e2]
theorem turn_at {α β : Type} {l : List β} {n : Nat} {g : Nat → Option α} {f : Nat → β → α → β} : (turn l n g f)[n]? = l[n]? := by
  rw [turn_get]
  simp

theorem runR_one {d : PlanD} {s : StD} {r : RecD} (h : goodR d s r = true) : runR d s [r] = some (applyR s r) := by simp [runR, h]
theorem goodR_of {d : PlanD} {s : StD} {r : RecD} (h1 : recOkB r = true) (h2 : thereB s r = true) (h3 : StOk d (applyR s r)) : goodR d s r = true := by
  simp [goodR, h1, h2, stOkB_iff.2 h3]

/-- Pods' records, one after the other. -/
theorem run_pods {d : PlanD} {s : StD} (h : StOk d s) {g : Nat → Option Int} (hg : ∀ i x, i < d.n0 → g i = some x → 0 ≤ x ∧ x ≤ 6) : ∀ n, n ≤ d.n0 →
    runR d s (recsOf n g (fun i x => ⟨2, i, x⟩)) = some { s with pods := turn s.pods n g (fun _ _ x => (x, s.ck)) }
  | 0, _ => by rw [recsOf_zero, turn_zero]; rfl
  | n + 1, hn => by
    have ih := run_pods h hg n (by omega)
    have h12 := (planOk_lock h.plan).2.2.1
    cases hx : g n with
    | none => rw [recsOf_none hx, turn_none hx]; exact ih
    | some x =>
      have hb := hg n x (by omega) hx
      have hok := runR_ok h ih
      have hl : n < s.pods.length := by rw [h.np]; omega
      obtain ⟨q, hq⟩ : ∃ q, s.pods[n]? = some q := ⟨_, List.getElem?_eq_getElem hl⟩
      rw [recsOf_some hx, runR_append, ih, Option.bind_some]
      refine (runR_one (goodR_of ?_ ?_ (ok_pod hok hb))).trans ?_
      · rw [recOkB_true]; simp only []; omega
      · simp [thereB, turn_length, hl]
      · simp only [applyR]
        simp [turn_some (f := fun _ _ x => (x, s.ck)) hx hq]

/-- Mounts' records: busy ones less busy, others free. -/
def mntRec (i : Nat) (q : Bool × Int) : RecD := if q.1 then ⟨3, i, q.2⟩ else ⟨4, i, 0⟩
theorem run_mnts {d : PlanD} {s : StD} (h : StOk d s) {g : Nat → Option (Bool × Int)} (hg : ∀ i q, i < d.n2 → g i = some q → (0 ≤ q.2 ∧ q.2 ≤ 5) ∧ (q.1 = true → (s.mnts.getD i (false, 0)).1 = true) ∧ (q.1 = false → q.2 = 0)) : ∀ n, n ≤ d.n2 →
    runR d s (recsOf n g mntRec) = some { s with mnts := turn s.mnts n g (fun _ _ x => x) }
  | 0, _ => by rw [recsOf_zero, turn_zero]; rfl
  | n + 1, hn => by
    have ih := run_mnts h hg n (by omega)
    have h12 := (planOk_lock h.plan).2.2.2.2.1
    cases hx : g n with
    | none => rw [recsOf_none hx, turn_none hx]; exact ih
    | some x =>
      have hb := hg n x (by omega) hx
      have hok := runR_ok h ih
      have hl : n < s.mnts.length := by rw [h.nm]; omega
      obtain ⟨q, hq⟩ : ∃ q, s.mnts[n]? = some q := ⟨_, List.getElem?_eq_getElem hl⟩
      have hq3 : s.mnts.getD n (false, 0) = q := by rw [List.getD, hq]; rfl
      rw [recsOf_some hx, runR_append, ih, Option.bind_some]
      obtain ⟨held, busy⟩ := x
      cases held
      · have hz : busy = 0 := hb.2.2 rfl
        subst hz
        refine (runR_one (r := mntRec n (false, 0)) (goodR_of ?_ ?_ (ok_free hok))).trans ?_
        · rw [recOkB_true]; simp only [mntRec, Bool.false_eq_true, if_false]; omega
        · simp [thereB, mntRec, turn_length, hl]
        · simp [applyR, mntRec, turn_some (f := fun _ _ x => x) hx hq]
      · have hh : q.1 = true := by rw [← hq3]; exact hb.2.1 rfl
        refine (runR_one (r := mntRec n (true, busy)) (goodR_of ?_ ?_ (ok_busy hok hb.1 (by simpa [turn_at, hq] using hh)))).trans ?_
        · rw [recOkB_true]; simp only [mntRec, if_true]; omega
        · simp [thereB, mntRec, turn_length, hl]
        · simp only [applyR, mntRec]
          simp [turn_some (f := fun _ _ x => x) hx hq, hh, turn_at, hq]

theorem run_devs {d : PlanD} {s : StD} (h : StOk d s) {g : Nat → Option Unit} : ∀ n, n ≤ d.n3 →
    runR d s (recsOf n g (fun i _ => ⟨5, i, 0⟩)) = some { s with devs := turn s.devs n g (fun _ _ _ => false) }
  | 0, _ => by rw [recsOf_zero, turn_zero]; rfl
  | n + 1, hn => by
    have ih := run_devs h (g := g) n (by omega)
    have h12 := (planOk_lock h.plan).2.2.2.2.2
    cases hx : g n with
    | none => rw [recsOf_none hx, turn_none hx]; exact ih
    | some x =>
      have hok := runR_ok h ih
      have hl : n < s.devs.length := by rw [h.nd]; omega
      obtain ⟨q, hq⟩ : ∃ q, s.devs[n]? = some q := ⟨_, List.getElem?_eq_getElem hl⟩
      rw [recsOf_some hx, runR_append, ih, Option.bind_some]
      refine (runR_one (goodR_of ?_ ?_ (ok_give hok))).trans ?_
      · rw [recOkB_true]; simp only []; omega
      · simp [thereB, turn_length, hl]
      · simp only [applyR]
        simp [turn_some (f := fun _ _ _ => false) hx hq]
end Go.Proofs.YtdkmhaghnfhajaaGreat
/- Tc -/
set_option linter.unusedVariables false
namespace Go.Proofs.YtdkmhaghnfhajaaGreat
open Go.RowKit

def podAt (s : StD) (i : Nat) : Int × Int := s.pods.getD i (0, 0)
def mntAt (s : StD) (i : Nat) : Bool × Int := s.mnts.getD i (false, 0)
def devAt (s : StD) (i : Nat) : Bool := s.devs.getD i false
def bandOf (d : PlanD) (i : Nat) : Int := d.x0 (i * 4 + 1)
def graceOf (d : PlanD) (i : Nat) : Int := d.x0 (i * 4 + 2)
def hookOf (d : PlanD) (i : Nat) : Int := d.x0 (i * 4 + 3)
def mpod (d : PlanD) (i : Nat) : Nat := (d.x2 (i * 2)).toNat
def mpar (d : PlanD) (i : Nat) : Int := d.x2 (i * 2 + 1)
def dmnt (d : PlanD) (i : Nat) : Nat := (d.x3 i).toNat

def stepG (d : PlanD) (s : StD) (b c : Int) (i : Nat) : Option Int :=
  if bandOf d i = b ∧ aliveB (podAt s i).1 = true then (if podStep (hookOf d i) (graceOf d i) (podAt s i) c = (podAt s i).1 then none else some (podStep (hookOf d i) (graceOf d i) (podAt s i) c)) else none
def liveB (d : PlanD) (s : StD) (b : Int) : Bool := (List.range d.n0).any fun i => decide (bandOf d i = b) && aliveB (podAt s i).1
def nextB (d : PlanD) (b : Int) : Int := if nextL d b < 0 then 6 else nextL d b
def shutL (d : PlanD) (s : StD) (c : Int) : List RecD :=
  if s.lks ≠ [] ∧ c < s.lb then [] else if s.ba = 6 then [⟨1, 4, 0⟩] else if liveB d s s.ba then recsOf d.n0 (stepG d s s.ba c) (fun i x => ⟨2, i, x⟩) else [⟨9, nextB d s.ba, 0⟩]
def freeB (d : PlanD) (s : StD) (i : Nat) : Bool := (mntAt s i).1 && !aliveB (podAt s (mpod d i)).1 && (List.range d.n2).all fun j => !(decide (mpar d j = i) && (mntAt s j).1)
def giveB (d : PlanD) (s : StD) (i : Nat) : Bool := devAt s i && !(mntAt s (dmnt d i)).1
def freeG (d : PlanD) (s : StD) (i : Nat) : Option (Bool × Int) := if freeB d s i then some (if 0 < (mntAt s i).2 then (true, (mntAt s i).2 - 1) else (false, 0)) else none
def giveG (d : PlanD) (s : StD) (i : Nat) : Option Unit := if giveB d s i then some () else none
def heldB (s : StD) : Bool := s.mnts.any (fun q => q.1) || s.devs.any (fun x => x)
def releaseL (d : PlanD) (s : StD) : List RecD := if heldB s then recsOf d.n2 (freeG d s) mntRec ++ recsOf d.n3 (giveG d s) (fun i _ => ⟨5, i, 0⟩) else [⟨1, 5, 0⟩]
def tickL (d : PlanD) (s : StD) : List RecD := ⟨8, s.ck + 1, 0⟩ :: (if s.ph = 3 then shutL d s (s.ck + 1) else if s.ph = 4 then releaseL d s else [])

/-- What a tick makes of a state. -/
def tickS (d : PlanD) (s : StD) : StD :=
  if s.ph = 3 then
    (if s.lks ≠ [] ∧ s.ck + 1 < s.lb then { s with ck := s.ck + 1 } else if s.ba = 6 then { s with ck := s.ck + 1, ph := 4, co := true }
     else if liveB d s s.ba then { s with ck := s.ck + 1, pods := turn s.pods d.n0 (stepG d s s.ba (s.ck + 1)) (fun _ _ x => (x, s.ck + 1)) } else { s with ck := s.ck + 1, ba := nextB d s.ba })
  else if s.ph = 4 then
    (if heldB s then { s with ck := s.ck + 1, mnts := turn s.mnts d.n2 (freeG d s) (fun _ _ x => x), devs := turn s.devs d.n3 (giveG d s) (fun _ _ _ => false) } else { s with ck := s.ck + 1, ph := 5, co := true })
  else { s with ck := s.ck + 1 }

theorem podAt_ok {d : PlanD} {s : StD} (h : StOk d s) {i : Nat} (hi : i < d.n0) : (0 ≤ (podAt s i).1 ∧ (podAt s i).1 ≤ 6) ∧ (0 ≤ (podAt s i).2 ∧ (podAt s i).2 ≤ 1000000) := by
  have hl : i < s.pods.length := by rw [h.np]; exact hi
  have e : podAt s i = s.pods[i] := by simp [podAt, List.getD, hl]
  rw [e]
  exact h.pods _ (List.getElem_mem hl)
theorem mntAt_ok {d : PlanD} {s : StD} (h : StOk d s) {i : Nat} (hi : i < d.n2) : (0 ≤ (mntAt s i).2 ∧ (mntAt s i).2 ≤ 5) ∧ ((mntAt s i).1 = false → (mntAt s i).2 = 0) := by
  have hl : i < s.mnts.length := by rw [h.nm]; exact hi
  have e : mntAt s i = s.mnts[i] := by simp [mntAt, List.getD, hl]
  rw [e]
  exact h.mnts _ (List.getElem_mem hl)
theorem nextL_cases (d : PlanD) (b : Int) : nextL d b = -1 ∧ (∀ x ∈ bandsL d, x ≤ b) ∨ (nextL d b ∈ bandsL d ∧ b < nextL d b ∧ ∀ x ∈ bandsL d, b < x → nextL d b ≤ x) := by
  unfold nextL firstOver
  cases hf : (bandsL d).find? (fun x => decide (b < x)) with
  | none =>
    refine .inl ⟨rfl, fun x hx => ?_⟩
    have := List.find?_eq_none.1 hf x hx
    simp at this
    omega
  | some y =>
    refine .inr ⟨List.mem_of_find?_eq_some hf, by simpa using List.find?_some hf, fun x hx hb => ?_⟩
    obtain ⟨_, k, hk, e, hall⟩ := List.find?_eq_some_iff_getElem.1 hf
    obtain ⟨j, hj, rfl⟩ := List.getElem_of_mem hx
    show y ≤ _
    rw [← e]
    by_cases hjk : j < k
    · have := hall j hjk
      simp at this
      omega
    · have hp := List.pairwise_iff_getElem.1 (bandsL_rise d)
      by_cases e2 : k = j
      · subst e2; exact Int.le_refl _
      · exact Int.le_of_lt (hp k j hk hj (by omega))
theorem bandsL_mem {d : PlanD} {x : Int} (h : x ∈ bandsL d) : 0 ≤ x ∧ x ≤ 5 := by
  obtain ⟨i, hi, rfl, _⟩ := picks_mem h
  omega
theorem nextB_in (d : PlanD) (b : Int) : 0 ≤ nextB d b ∧ nextB d b ≤ 6 := by
  unfold nextB
  rcases nextL_cases d b with ⟨h, _⟩ | ⟨h, _⟩
  · rw [h]; decide
  · have := bandsL_mem h
    split <;> omega

theorem alive_step {hook grace : Int} {q : Int × Int} {c : Int} (h : aliveB q.1 = true) : 0 ≤ podStep hook grace q c ∧ podStep hook grace q c ≤ 6 := by
  simp only [aliveB, inB_true] at h
  unfold podStep
  repeat' split
  all_goals omega
theorem stepG_in {d : PlanD} {s : StD} {b c : Int} {i : Nat} {x : Int} (h : stepG d s b c i = some x) : 0 ≤ x ∧ x ≤ 6 := by
  unfold stepG at h
  split at h
  · rename_i ha
    split at h
    · cases h
    · cases h
      exact alive_step ha.2
  · cases h

theorem freeG_in {d : PlanD} {s : StD} (h : StOk d s) {i : Nat} {q : Bool × Int} (hi : i < d.n2) (hq : freeG d s i = some q) : (0 ≤ q.2 ∧ q.2 ≤ 5) ∧ (q.1 = true → (mntAt s i).1 = true) ∧ (q.1 = false → q.2 = 0) := by
  have hm := mntAt_ok h hi
  unfold freeG at hq
  split at hq
  · rename_i hf
    simp only [freeB, Bool.and_eq_true] at hf
    cases hq
    split
    · exact ⟨by constructor <;> (simp only []; omega), fun _ => hf.1.1, fun hx => (by cases hx)⟩
    · exact ⟨by decide, fun hx => (by cases hx), fun _ => rfl⟩
  · cases hq

theorem tick_run {d : PlanD} {s : StD} (h : StOk d s) (hc : s.ck < 1000000) : runR d s (tickL d s) = some (tickS d s) := by
  have hck := h.ck
  have hok1 : StOk d (applyR s ⟨8, s.ck + 1, 0⟩) := ok_clock h (by omega)
  have hg1 : goodR d s ⟨8, s.ck + 1, 0⟩ = true := goodR_of (by rw [recOkB_true]; simp only []; omega) rfl hok1
  have e1 : applyR s ⟨8, s.ck + 1, 0⟩ = { s with ck := s.ck + 1 } := rfl
  unfold tickL tickS
  rw [runR, if_pos hg1, e1]
  rw [e1] at hok1
  by_cases h3 : s.ph = 3
  · rw [if_pos h3, if_pos h3]
    unfold shutL
    split
    · rfl
    · split
      · exact runR_one (goodR_of (by decide) rfl (ok_phase hok1 (by decide)))
      · split
        · have := run_pods hok1 (g := stepG d s s.ba (s.ck + 1)) (fun i x _ hx => stepG_in hx) d.n0 (Nat.le_refl _)
          exact this
        · have hb := nextB_in d s.ba
          refine runR_one (goodR_of (by rw [recOkB_true]; simp only []; omega) rfl (ok_band hok1 hb))
  · rw [if_neg h3, if_neg h3]
    by_cases h4 : s.ph = 4
    · rw [if_pos h4, if_pos h4]
      unfold releaseL
      split
      · have hr := run_mnts hok1 (g := freeG d s) (fun i q hi hq => freeG_in h hi hq) d.n2 (Nat.le_refl _)
        rw [runR_append, hr, Option.bind_some]
        exact run_devs (runR_ok hok1 hr) (g := giveG d s) d.n3 (Nat.le_refl _)
      · exact runR_one (goodR_of (by decide) rfl (ok_phase hok1 (by decide)))
    · rw [if_neg h4, if_neg h4]
      rfl
/-- How many ticks of its own a pod needs at most. -/
def potP (hook grace : Int) (q : Int × Int) (ck : Int) : Int :=
  if q.1 = 0 then 2 + hook + max 1 grace else if q.1 = 1 then max 1 (q.2 + hook - ck) + max 1 grace + 1 else if q.1 = 2 then max 1 (q.2 + grace - ck) + 1 else if q.1 = 3 then 1 else 0
end Go.Proofs.YtdkmhaghnfhajaaGreat
/- Td -/
set_option linter.unusedVariables false
namespace Go.Proofs.YtdkmhaghnfhajaaGreat
open Go.RowKit

structure HoldsP (d : PlanD) (s : StD) : Prop where
  pod : ∀ i, i < d.n2 → (mntAt s i).1 = false → aliveB (podAt s (mpod d i)).1 = false
  par : ∀ i, i < d.n2 → 0 ≤ mpar d i → (mntAt s i).1 = true → (mntAt s (mpar d i).toNat).1 = true
  dev : ∀ i, i < d.n3 → devAt s i = false → (mntAt s (dmnt d i)).1 = false
structure Going (d : PlanD) (s : StD) : Prop where
  ok : StOk d s
  ph : 3 ≤ s.ph ∧ s.ph ≤ 5
  since : ∀ i, i < d.n0 → (podAt s i).2 ≤ s.ck
  later : s.ph = 3 → ∀ i, i < d.n0 → s.ba < bandOf d i → aliveB (podAt s i).1 = true → (podAt s i).1 = 0
  earlier : s.ph = 3 → ∀ i, i < d.n0 → bandOf d i < s.ba → aliveB (podAt s i).1 = false
  dead : 4 ≤ s.ph → ∀ i, i < d.n0 → aliveB (podAt s i).1 = false
  holds : HoldsP d s
  down : s.ph = 5 → heldB s = false
def over (d : PlanD) (b : Int) : Int := sumB 6 (fun k => if b < k then bandT d k else 0)
def mw (q : Bool × Int) : Int := if q.1 then q.2 + 1 else 0
def relW (d : PlanD) (s : StD) : Int := sumB d.n2 (fun i => mw (mntAt s i)) + sumB d.n3 (fun i => if devAt s i then 1 else 0)
structure Left (d : PlanD) (s : StD) (n : Int) : Prop where
  shut : s.ph = 3 → ∃ lw pw : Int, 0 ≤ lw ∧ 0 ≤ pw ∧ (s.lks = [] ∨ s.lb - 1 - s.ck ≤ lw) ∧ (∀ i, i < d.n0 → bandOf d i = s.ba → aliveB (podAt s i).1 = true → potP (hookOf d i) (graceOf d i) (podAt s i) s.ck ≤ pw) ∧
    lw + pw + (if s.ba = 6 then 0 else 1 + over d s.ba) + 6 * d.n2 + d.n3 + 2 ≤ n
  rel : s.ph = 4 → relW d s + 1 ≤ n
  done : s.ph = 5 → 0 ≤ n

theorem mount_facts {d : PlanD} (h : planOkB d = true) {i : Nat} (hi : i < d.n2) : mpod d i < d.n0 ∧ -1 ≤ mpar d i ∧ mpar d i < i := by
  simp only [planOkB, Bool.and_eq_true] at h
  have := allB_true.1 h.1.2 i hi
  simp only [mountB, Bool.and_eq_true, inB_true] at this
  unfold mpod mpar
  omega
theorem device_facts {d : PlanD} (h : planOkB d = true) {i : Nat} (hi : i < d.n3) : dmnt d i < d.n2 := by
  simp only [planOkB, Bool.and_eq_true] at h
  have := allB_true.1 h.2 i hi
  simp only [deviceB, inB_true] at this
  unfold dmnt
  omega
theorem hits_in {n : Nat} {f : Nat → Int} {i : Nat} (hi : i < n) : (i : Int) ∈ hits n f (f i) := by
  simp only [hits, List.mem_map, List.mem_filter, List.mem_range]
  exact ⟨i, ⟨hi, by simp⟩, rfl⟩
theorem greatest {n : Nat} {p : Nat → Bool} (h : ∃ i, i < n ∧ p i = true) : ∃ i, i < n ∧ p i = true ∧ ∀ j, j < n → i < j → p j = false := by
  induction n with
  | zero => obtain ⟨i, hi, _⟩ := h; omega
  | succ n ih =>
    cases hp : p n
    · obtain ⟨i, hi, hpi⟩ := h
      have hne : i ≠ n := fun e => by rw [e, hp] at hpi; cases hpi
      obtain ⟨k, hk, hpk, hall⟩ := ih ⟨i, by omega, hpi⟩
      refine ⟨k, by omega, hpk, fun j hj hkj => ?_⟩
      by_cases e : j = n
      · rw [e]; exact hp
      · exact hall j (by omega) hkj
    · exact ⟨n, by omega, hp, fun j hj hlt => by omega⟩
theorem heldB_iff {d : PlanD} {s : StD} (h : StOk d s) : heldB s = true ↔ (∃ i, i < d.n2 ∧ (mntAt s i).1 = true) ∨ ∃ i, i < d.n3 ∧ devAt s i = true := by
  unfold heldB
  rw [Bool.or_eq_true, List.any_eq_true, List.any_eq_true]
  have hm := h.nm
  have hd := h.nd
  constructor
  · rintro (⟨q, hq, h1⟩ | ⟨q, hq, h1⟩)
    · obtain ⟨i, hi, rfl⟩ := List.getElem_of_mem hq
      exact .inl ⟨i, by omega, by simpa [mntAt, List.getD, hi] using h1⟩
    · obtain ⟨i, hi, rfl⟩ := List.getElem_of_mem hq
      exact .inr ⟨i, by omega, by simpa [devAt, List.getD, hi] using h1⟩
  · rintro (⟨i, hi, h1⟩ | ⟨i, hi, h1⟩)
    · have hl : i < s.mnts.length := by omega
      exact .inl ⟨s.mnts[i], List.getElem_mem hl, by simpa [mntAt, List.getD, hl] using h1⟩
    · have hl : i < s.devs.length := by omega
      exact .inr ⟨s.devs[i], List.getElem_mem hl, by simpa [devAt, List.getD, hl] using h1⟩
end Go.Proofs.YtdkmhaghnfhajaaGreat
/- Te -/
set_option linter.unusedVariables false
namespace Go.Proofs.YtdkmhaghnfhajaaGreat
open Go.RowKit

section
variable {d : PlanD} {s : StD}
end

end Go.Proofs.YtdkmhaghnfhajaaGreat
/- Tf -/
set_option linter.unusedVariables false
namespace Go.Proofs.YtdkmhaghnfhajaaGreat
open Go.RowKit

/-- Ahead of the shutting: who is alive runs. -/
structure Before (d : PlanD) (s : StD) : Prop where
  ok : StOk d s
  since : ∀ i, i < d.n0 → (podAt s i).2 ≤ s.ck
  runs : ∀ i, i < d.n0 → aliveB (podAt s i).1 = true → (podAt s i).1 = 0
  holds : HoldsP d s
def shutS (d : PlanD) (s : StD) : StD := { s with lb := min (s.ck + d.l) 1000000, ba := nextB d (-1), ph := 3, co := true }
theorem shut_run {d : PlanD} {s : StD} (h : StOk d s) : runR d s [⟨11, min (s.ck + d.l) 1000000, 0⟩, ⟨9, nextB d (-1), 0⟩, ⟨1, 3, 0⟩] = some (shutS d s) := by
  have hl := planOk_lock h.plan
  have hc := h.ck
  have hb := nextB_in d (-1)
  have h1 : StOk d (applyR s ⟨11, min (s.ck + d.l) 1000000, 0⟩) := ok_lockBy h (by omega)
  have g1 : goodR d s ⟨11, min (s.ck + d.l) 1000000, 0⟩ = true := goodR_of (by rw [recOkB_true]; simp only []; omega) rfl h1
  have h2 := ok_band h1 hb
  have g2 : goodR d (applyR s ⟨11, min (s.ck + d.l) 1000000, 0⟩) ⟨9, nextB d (-1), 0⟩ = true := goodR_of (by rw [recOkB_true]; simp only []; omega) rfl h2
  rw [runR, if_pos g1, runR, if_pos g2]
  exact runR_one (goodR_of (by decide) rfl (ok_phase h2 (by decide)))
theorem shut_ok {d : PlanD} {s : StD} (h : StOk d s) : StOk d (shutS d s) := runR_ok h (shut_run h)
/-- A state in which one pod is in another state, since now. -/
def podS (s : StD) (i : Nat) (st : Int) : StD := { s with pods := s.pods.set i (st, s.ck) }
end Go.Proofs.YtdkmhaghnfhajaaGreat
