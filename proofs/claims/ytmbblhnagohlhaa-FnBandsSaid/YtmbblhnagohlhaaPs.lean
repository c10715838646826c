/-
  A plan under way: its lists of new memory, the cursor beside it.
-/
import Derived.Test.YtmbblhnagohlhaaPr
import Derived.Test.YtmbblhnagohlhaaPlA
import Derived.Deep.AppendLies
import Derived.Deep.RegionLaw
set_option linter.unusedVariables false
namespace Go.Proofs.Ytmbblhnagohlhaa
open Go.RowKit

/-- The value owns a row of n elements of k whole numbers, x 0, x 1, .. -/
def OI (w : World) (B e k : Nat) (v : Value) (n : Nat) (x : Nat → Int) : Prop :=
  ∃ xs : List Value, w.ownsRow B e k v n xs ∧ ∀ j, j < n * k → xs[j]? = some (.int .i64 (x j))
theorem OI.nil_ (w : World) (B e k : Nat) (x : Nat → Int) : OI w B e k (.slice none 0 0) 0 x := ⟨[], World.ownsRow_nil _ _ _ _, fun j hj => by omega⟩
theorem OI.form {w : World} {B e k n : Nat} {v : Value} {x : Nat → Int} (h : OI w B e k v n x) :
    ∃ A c, v = .slice A n c ∧ Sl w w.heap.size k A n x ∧ n ≤ maxLen := by
  obtain ⟨xs, hown, hx⟩ := h
  rcases hown.2 with ⟨rfl, h0⟩ | ⟨g, cap, cur, rfl, hb, hh, hnc, hcm, _⟩
  · exact ⟨none, 0, by rw [h0], fun hn => by omega, by rw [h0]; exact Nat.zero_le _⟩
  · refine ⟨_, cap, rfl, fun hn => ⟨g, 0, rfl, (Array.getElem?_eq_some_iff.1 hh).1, fun j hj => ?_⟩, Nat.le_trans hnc hcm⟩
    have := hown.cells (g := g) rfl j _ (hx j hj)
    rw [add_zero_block] at this
    rwa [Nat.zero_add]
theorem OI.block {w : World} {B e k n : Nat} {v : Value} {x : Nat → Int} (h : OI w B e k v n x) {r : Nat} (hr : v.ownBlock = some r) : ∃ cs, w.heap[r]? = some (.cells cs e (0, 0)) := by
  obtain ⟨xs, hown, _⟩ := h
  rcases hown.2 with ⟨rfl, _⟩ | ⟨g, cap, cur, rfl, hb, hh, _⟩
  · cases hr
  · injection hr with hr
    subst hr
    exact ⟨cur, hh⟩
theorem OI.moved {w w' : World} {B e k n : Nat} {v : Value} {x : Nat → Int} (h : OI w B e k v n x) (hm : ∀ r, v.ownBlock = some r → w'.heap[r]? = w.heap[r]?) : OI w' B e k v n x := by
  obtain ⟨xs, hown, hx⟩ := h
  refine ⟨xs, ⟨hown.1, hown.2.imp id ?_⟩, hx⟩
  rintro ⟨g, cap, cur, hv, hb', hh, rest⟩
  exact ⟨g, cap, cur, hv, hb', (hm g (by rw [hv]; rfl)).trans hh, rest⟩
/-- Only block g has turned, and it is of another type. -/
theorem OI.keeps {w w' : World} {B e k n g T : Nat} {cs : Array Value} {v : Value} {x : Nat → Int} (h : OI w B e k v n x) (kk : Keeps (· = g) w w') (hg : w.heap[g]? = some (.cells cs T (0, 0))) (hne : T ≠ e) : OI w' B e k v n x :=
  h.moved fun r hr => by
    obtain ⟨cs', hb⟩ := h.block hr
    refine kk.block r (Array.getElem?_eq_some_iff.1 hb).1 fun e' => ?_
    have e' : r = g := e'
    rw [e', hg] at hb
    injection hb with hb
    injection hb with _ ht
    exact hne ht
theorem OI.below {w w' : World} {B e k n : Nat} {v : Value} {x : Nat → Int} (h : OI w B e k v n x) (hb : Below w.heap.size w w') : OI w' B e k v n x :=
  h.moved fun r hr => by
    obtain ⟨cs', hb'⟩ := h.block hr
    exact hb.block r (Array.getElem?_eq_some_iff.1 hb').1
/-- Another row, of another type, has grown. -/
theorem OI.grown {w w' : World} {B e k n B' e' k' n' : Nat} {v v' : Value} {x x' : Nat → Int} (h : OI w B e k v n x) (h' : OI w B' e' k' v' n' x') (hne : e' ≠ e) (hg : w.grownBy w' v'.ownBlock) : OI w' B e k v n x :=
  h.moved fun r hr => by
    obtain ⟨cs, hb⟩ := h.block hr
    refine hg.block r (Array.getElem?_eq_some_iff.1 hb).1 fun e2 => ?_
    obtain ⟨cs', hb'⟩ := h'.block e2.symm
    rw [hb] at hb'
    injection hb' with hb'
    injection hb' with _ ht
    exact hne ht.symm
/-- An element more. -/
def ext (n k : Nat) (x : Nat → Int) (l : List Int) : Nat → Int := fun j => if j < n * k then x j else l.getD (j - n * k) 0
theorem OI.push {w' : World} {B e k n : Nat} {v' : Value} {x : Nat → Int} {xs : List Value} (hx : ∀ j, j < n * k → xs[j]? = some (.int .i64 (x j))) (hl : xs.length = n * k) (l : List Int) (hk : l.length = k)
    (h : w'.ownsRow B e k v' (n + 1) (xs ++ l.map (Value.int .i64))) : OI w' B e k v' (n + 1) (ext n k x l) := by
  refine ⟨_, h, fun j hj => ?_⟩
  unfold ext
  by_cases hlt : j < n * k
  · rw [if_pos hlt, List.getElem?_append_left (by omega)]
    exact hx j hlt
  · rw [if_neg hlt, List.getElem?_append_right (by omega), hl]
    have : j - n * k < l.length := by rw [hk]; rw [Nat.add_mul] at hj; omega
    simp [List.getD, this]

def zeroC : Array Value := planC none none none none 0 0 0 0 0 0 0 0 0 0 0
/-- A plan under way in block P, beside the cursor g; R is where the answer will lie. -/
structure Bld (T : TypeId) (kd : IntKind) (w W : World) (g R P : Nat) (cs : Array Value) (v0 v1 v2 v3 : Value) (n0 n1 n2 n3 : Nat) (x0 x1 x2 x3 : Nat → Int) : Prop where
  cur : Cur T kd W g
  keep : Keeps (· = g) w W
  old : g < w.heap.size
  pl : W.heap[P]? = some (.cells cs 29 (0, 0))
  pge : w.heap.size ≤ P
  rl : W.heap[R]? = some (.cells zeroC 29 (0, 0))
  rge : w.heap.size ≤ R
  rp : R ≠ P
  o0 : OI W w.heap.size 55 4 v0 n0 x0
  o1 : OI W w.heap.size 2 1 v1 n1 x1
  o2 : OI W w.heap.size 57 2 v2 n2 x2
  o3 : OI W w.heap.size 59 1 v3 n3 x3

section
variable {T : TypeId} {kd : IntKind} {w W W' : World} {g R P : Nat} {cs : Array Value} {v0 v1 v2 v3 : Value} {n0 n1 n2 n3 : Nat} {x0 x1 x2 x3 : Nat → Int}
def apart (T : TypeId) : Prop := T ≠ 29 ∧ T ≠ 55 ∧ T ≠ 2 ∧ T ≠ 57 ∧ T ≠ 59
theorem Cur.head {T : TypeId} {k : IntKind} {w : World} {g : Nat} (h : Cur T k w g) : ∃ cs, w.heap[g]? = some (.cells cs T (0, 0)) := by
  obtain ⟨A, n, c, i, hh, hg, _⟩ := h
  exact ⟨_, hg⟩
theorem Bld.cell (h : Bld T kd w W g R P cs v0 v1 v2 v3 n0 n1 n2 n3 x0 x1 x2 x3) (o : Nat) : W.cell? ⟨P, o, none⟩ = cs[o]? := cell_of_row W P o cs _ _ h.pl
theorem Bld.frozen (h : Bld T kd w W g R P cs v0 v1 v2 v3 n0 n1 n2 n3 x0 x1 x2 x3) (o : Nat) : W.frozen? ⟨P, o, none⟩ = false := frozen_of_row W P o cs _ h.pl
theorem Bld.lt (h : Bld T kd w W g R P cs v0 v1 v2 v3 n0 n1 n2 n3 x0 x1 x2 x3) : P < W.heap.size := (Array.getElem?_eq_some_iff.1 h.pl).1
theorem Bld.rlt (h : Bld T kd w W g R P cs v0 v1 v2 v3 n0 n1 n2 n3 x0 x1 x2 x3) : R < W.heap.size := (Array.getElem?_eq_some_iff.1 h.rl).1
theorem Bld.draw (h : Bld T kd w W g R P cs v0 v1 v2 v3 n0 n1 n2 n3 x0 x1 x2 x3) (hT : apart T) (hk : Keeps (· = g) W W') (hc : Cur T kd W' g) : Bld T kd w W' g R P cs v0 v1 v2 v3 n0 n1 n2 n3 x0 x1 x2 x3 := by
  obtain ⟨ds, hg⟩ := h.cur.head
  have hPg : ¬ P = g := fun e => by
    have := h.pl
    rw [e, hg] at this
    injection this with this
    injection this with _ ht
    exact hT.1 ht
  have hRg : ¬ R = g := fun e => by
    have := h.rl
    rw [e, hg] at this
    injection this with this
    injection this with _ ht
    exact hT.1 ht
  exact ⟨hc, h.keep.trans hk, h.old, (hk.block P h.lt hPg).trans h.pl, h.pge, (hk.block R h.rlt hRg).trans h.rl, h.rge, h.rp, h.o0.keeps hk hg hT.2.1, h.o1.keeps hk hg hT.2.2.1, h.o2.keeps hk hg hT.2.2.2.1, h.o3.keeps hk hg hT.2.2.2.2⟩
theorem Bld.below (h : Bld T kd w W g R P cs v0 v1 v2 v3 n0 n1 n2 n3 x0 x1 x2 x3) (hb : Below W.heap.size W W') : Bld T kd w W' g R P cs v0 v1 v2 v3 n0 n1 n2 n3 x0 x1 x2 x3 :=
  ⟨h.cur.below hb, h.keep.trans (Keeps.of_below hb), h.old, (hb.block P h.lt).trans h.pl, h.pge, (hb.block R h.rlt).trans h.rl, h.rge, h.rp, h.o0.below hb, h.o1.below hb, h.o2.below hb, h.o3.below hb⟩
theorem Bld.alloc (h : Bld T kd w W g R P cs v0 v1 v2 v3 n0 n1 n2 n3 x0 x1 x2 x3) (o : Obj) : Bld T kd w (W.alloc o) g R P cs v0 v1 v2 v3 n0 n1 n2 n3 x0 x1 x2 x3 := h.below ((Below.refl _ _).alloc (Nat.le_refl _) o)
theorem Bld.drew (h : Bld T kd w W g R P cs v0 v1 v2 v3 n0 n1 n2 n3 x0 x1 x2 x3) : Bld T kd w W.drew g R P cs v0 v1 v2 v3 n0 n1 n2 n3 x0 x1 x2 x3 := h.below (Below.refl _ _).drew
theorem OI.setP {e k n : Nat} {B : Nat} {v : Value} {x : Nat → Int} (h : OI W B e k v n x) (hP : W.heap[P]? = some (.cells cs 29 (0, 0))) (hne : (29 : Nat) ≠ e) (i : Nat) (u : Value) : OI (W.setCell ⟨P, i, none⟩ u) B e k v n x :=
  h.keeps ((Keeps.refl (· = P) W).set (p := ⟨P, i, none⟩) rfl u) hP hne
theorem Bld.store (h : Bld T kd w W g R P cs v0 v1 v2 v3 n0 n1 n2 n3 x0 x1 x2 x3) (hT : apart T) (i : Nat) (u : Value) : Bld T kd w (W.setCell ⟨P, i, none⟩ u) g R P (cs.setIfInBounds i u) v0 v1 v2 v3 n0 n1 n2 n3 x0 x1 x2 x3 := by
  have hP := h.pl
  have hold := h.old
  have hge := h.pge
  have hk : Keeps (· = P) W (W.setCell ⟨P, i, none⟩ u) := (Keeps.refl (· = P) W).set (p := ⟨P, i, none⟩) rfl u
  refine ⟨h.cur.keeps hk (fun b hb e => by have e : b = P := e; omega), ?_, hold, heap_setCell_same W P i cs _ u hP, hge, (hk.block R h.rlt h.rp).trans h.rl, h.rge, h.rp, h.o0.setP hP (by decide) i u, h.o1.setP hP (by decide) i u, h.o2.setP hP (by decide) i u, h.o3.setP hP (by decide) i u⟩
  have hk0 := h.keep
  exact ⟨hk.os.trans hk0.os, hk.tape.trans hk0.tape, hk.output.trans hk0.output, Nat.le_trans hk0.size hk.size, fun b hb hn => (hk.block b (Nat.lt_of_lt_of_le hb hk0.size) (fun e => by have e : b = P := e; omega)).trans (hk0.block b hb hn)⟩
/-- What grows is one of the call's own rows: cursor, plan, what was there stay. -/
theorem Bld.base (h : Bld T kd w W g R P cs v0 v1 v2 v3 n0 n1 n2 n3 x0 x1 x2 x3) {e k n : Nat} {v : Value} {x : Nat → Int} (ho : OI W w.heap.size e k v n x) (hT : T ≠ e) (hP : (29 : Nat) ≠ e) (hg : W.grownBy W' v.ownBlock) :
    Cur T kd W' g ∧ Keeps (· = g) w W' ∧ W'.heap[P]? = some (.cells cs 29 (0, 0)) ∧ W'.heap[R]? = some (.cells zeroC 29 (0, 0)) := by
  have hlt := h.cur.lt
  have hold := h.old
  have hr : ∀ r, v.ownBlock = some r → w.heap.size ≤ r := fun r hr => by
    obtain ⟨xs, hown, _⟩ := ho
    exact (hown.lt r hr).1
  have hk : Keeps (fun b => v.ownBlock = some b) W W' := ⟨hg.os, hg.tape, hg.output, hg.size, fun b hb hn => hg.block b hb fun e => hn e.symm⟩
  refine ⟨h.cur.keeps hk (fun b hb e => by have := hr b e; omega), ?_, ?_, ?_⟩
  · have hk0 := h.keep
    exact ⟨hk.os.trans hk0.os, hk.tape.trans hk0.tape, hk.output.trans hk0.output, Nat.le_trans hk0.size hk.size, fun b hb hn => (hk.block b (Nat.lt_of_lt_of_le hb hk0.size) (fun e => by have := hr b e; omega)).trans (hk0.block b hb hn)⟩
  · refine (hk.block P h.lt fun e => ?_).trans h.pl
    obtain ⟨ds, hb⟩ := ho.block e
    rw [h.pl] at hb
    injection hb with hb
    injection hb with _ ht
    exact hP ht
  · refine (hk.block R h.rlt fun e => ?_).trans h.rl
    obtain ⟨ds, hb⟩ := ho.block e
    rw [h.rl] at hb
    injection hb with hb
    injection hb with _ ht
    exact hP ht
theorem Bld.push0 (h : Bld T kd w W g R P cs v0 v1 v2 v3 n0 n1 n2 n3 x0 x1 x2 x3) (hT : apart T) {v0' : Value} {m : Nat} {x : Nat → Int} (hg : W.grownBy W' v0.ownBlock) (ho : OI W' w.heap.size 55 4 v0' m x) : Bld T kd w W' g R P cs v0' v1 v2 v3 m n1 n2 n3 x x1 x2 x3 := by
  obtain ⟨a, b, c, r⟩ := h.base h.o0 hT.2.1 (by decide) hg
  exact ⟨a, b, h.old, c, h.pge, r, h.rge, h.rp, ho, h.o1.grown h.o0 (by decide) hg, h.o2.grown h.o0 (by decide) hg, h.o3.grown h.o0 (by decide) hg⟩
theorem Bld.push1 (h : Bld T kd w W g R P cs v0 v1 v2 v3 n0 n1 n2 n3 x0 x1 x2 x3) (hT : apart T) {v1' : Value} {m : Nat} {x : Nat → Int} (hg : W.grownBy W' v1.ownBlock) (ho : OI W' w.heap.size 2 1 v1' m x) : Bld T kd w W' g R P cs v0 v1' v2 v3 n0 m n2 n3 x0 x x2 x3 := by
  obtain ⟨a, b, c, r⟩ := h.base h.o1 hT.2.2.1 (by decide) hg
  exact ⟨a, b, h.old, c, h.pge, r, h.rge, h.rp, h.o0.grown h.o1 (by decide) hg, ho, h.o2.grown h.o1 (by decide) hg, h.o3.grown h.o1 (by decide) hg⟩
theorem Bld.push2 (h : Bld T kd w W g R P cs v0 v1 v2 v3 n0 n1 n2 n3 x0 x1 x2 x3) (hT : apart T) {v2' : Value} {m : Nat} {x : Nat → Int} (hg : W.grownBy W' v2.ownBlock) (ho : OI W' w.heap.size 57 2 v2' m x) : Bld T kd w W' g R P cs v0 v1 v2' v3 n0 n1 m n3 x0 x1 x x3 := by
  obtain ⟨a, b, c, r⟩ := h.base h.o2 hT.2.2.2.1 (by decide) hg
  exact ⟨a, b, h.old, c, h.pge, r, h.rge, h.rp, h.o0.grown h.o2 (by decide) hg, h.o1.grown h.o2 (by decide) hg, ho, h.o3.grown h.o2 (by decide) hg⟩
theorem Bld.push3 (h : Bld T kd w W g R P cs v0 v1 v2 v3 n0 n1 n2 n3 x0 x1 x2 x3) (hT : apart T) {v3' : Value} {m : Nat} {x : Nat → Int} (hg : W.grownBy W' v3.ownBlock) (ho : OI W' w.heap.size 59 1 v3' m x) : Bld T kd w W' g R P cs v0 v1 v2 v3' n0 n1 n2 m x0 x1 x2 x := by
  obtain ⟨a, b, c, r⟩ := h.base h.o3 hT.2.2.2.2 (by decide) hg
  exact ⟨a, b, h.old, c, h.pge, r, h.rge, h.rp, h.o0.grown h.o3 (by decide) hg, h.o1.grown h.o3 (by decide) hg, h.o2.grown h.o3 (by decide) hg, ho⟩
end
section
variable {T : TypeId} {kd : IntKind} {w W : World} {g R P : Nat} {cs : Array Value} {v0 v1 v2 v3 : Value} {n0 n1 n2 n3 : Nat} {x0 x1 x2 x3 : Nat → Int}
variable {ops : Array Oper} {o : Oper} {ac : Act} {K : Act → World → Prop} {Q : Exit → Act → World → Prop} {E : Prop}

theorem push0_step (B : Bld T kd w W g R P cs v0 v1 v2 v3 n0 n1 n2 n3 x0 x1 x2 x3) (hT : apart T) (hn : n0 ≤ 1000) (a b c d : Int) (hgd : o.guard = none) (s x : Operand)
    (ho : o.op = .call { callee := .builtin .append, args := #[s, x], argTypes := #[24, 24] }) (hs : ac.eval s = v0) (hx : ac.eval x = .slice (some ⟨W.heap.size, 0, none⟩) 1 1)
    (h : ∀ gg cap W', Bld T kd w W' g R P cs (.slice (some ⟨gg, 0, none⟩) (n0 + 1) cap) v1 v2 v3 (n0 + 1) n1 n2 n3 (ext n0 4 x0 [a, b, c, d]) x1 x2 x3 → K (ac.put o.dst (.slice (some ⟨gg, 0, none⟩) (n0 + 1) cap)) W') :
    if Region.wanted o (yielded ops ac.tmps) = true then Oper.wp Try.prog o ac (W.alloc (.cells #[.int .i64 a, .int .i64 b, .int .i64 c, .int .i64 d] 55)) K Q else E := by
  obtain ⟨i, hi, hz0, hz1, hz2⟩ := info_parts info_pod
  obtain ⟨xs, hown, hxs⟩ := B.o0
  have hlt := B.lt
  have hge := B.pge
  refine step_append_lies _ hgd s x _ ho w.heap.size 55 i _ 4 32 Try.underlying24 hi hz0 hz1 hz2 rfl (by omega) v0 n0 xs hs (hown.alloc _) ⟨W.heap.size, 0, none⟩ 1 1 [.int .i64 a, .int .i64 b, .int .i64 c, .int .i64 d] hx rfl
    (World.news_of_block (cs := #[.int .i64 a, .int .i64 b, .int .i64 c, .int .i64 d]) (heap_alloc_new W _)) (by simp [Value.oneCell']) (by omega) (by unfold maxLen; omega) (by omega) (by simp; omega) (W.heap.size + 1) (by simp) ?_
  intro gg cap w6 hown6 hgrow hat hltg
  exact h _ _ _ ((B.alloc (.cells #[.int .i64 a, .int .i64 b, .int .i64 c, .int .i64 d] 55)).push0 hT hgrow (OI.push hxs hown.1 [a, b, c, d] rfl hown6))

theorem push1_step (B : Bld T kd w W g R P cs v0 v1 v2 v3 n0 n1 n2 n3 x0 x1 x2 x3) (hT : apart T) (hn : n1 ≤ 1000) (a : Int) (hgd : o.guard = none) (s x : Operand)
    (ho : o.op = .call { callee := .builtin .append, args := #[s, x], argTypes := #[25, 25] }) (hs : ac.eval s = v1) (hx : ac.eval x = .slice (some ⟨W.heap.size, 0, none⟩) 1 1)
    (h : ∀ gg cap W', Bld T kd w W' g R P cs v0 (.slice (some ⟨gg, 0, none⟩) (n1 + 1) cap) v2 v3 n0 (n1 + 1) n2 n3 x0 (ext n1 1 x1 [a]) x2 x3 → K (ac.put o.dst (.slice (some ⟨gg, 0, none⟩) (n1 + 1) cap)) W') :
    if Region.wanted o (yielded ops ac.tmps) = true then Oper.wp Try.prog o ac (W.alloc (.cells #[.int .i64 a] 2)) K Q else E := by
  obtain ⟨i, hi, hz0, hz1, hz2⟩ := info_parts info_i64
  obtain ⟨xs, hown, hxs⟩ := B.o1
  have hlt := B.lt
  have hge := B.pge
  refine step_append_lies _ hgd s x _ ho w.heap.size 2 i _ 1 8 Try.underlying25 hi hz0 hz1 hz2 rfl (by omega) v1 n1 xs hs (hown.alloc _) ⟨W.heap.size, 0, none⟩ 1 1 [.int .i64 a] hx rfl
    (World.news_of_block (cs := #[.int .i64 a]) (heap_alloc_new W _)) (by simp [Value.oneCell']) (by omega) (by unfold maxLen; omega) (by omega) (by simp; omega) (W.heap.size + 1) (by simp) ?_
  intro gg cap w6 hown6 hgrow hat hltg
  exact h _ _ _ ((B.alloc (.cells #[.int .i64 a] 2)).push1 hT hgrow (OI.push hxs hown.1 [a] rfl hown6))

theorem push2_step (B : Bld T kd w W g R P cs v0 v1 v2 v3 n0 n1 n2 n3 x0 x1 x2 x3) (hT : apart T) (hn : n2 ≤ 1000) (a b : Int) (hgd : o.guard = none) (s x : Operand)
    (ho : o.op = .call { callee := .builtin .append, args := #[s, x], argTypes := #[26, 26] }) (hs : ac.eval s = v2) (hx : ac.eval x = .slice (some ⟨W.heap.size, 0, none⟩) 1 1)
    (h : ∀ gg cap W', Bld T kd w W' g R P cs v0 v1 (.slice (some ⟨gg, 0, none⟩) (n2 + 1) cap) v3 n0 n1 (n2 + 1) n3 x0 x1 (ext n2 2 x2 [a, b]) x3 → K (ac.put o.dst (.slice (some ⟨gg, 0, none⟩) (n2 + 1) cap)) W') :
    if Region.wanted o (yielded ops ac.tmps) = true then Oper.wp Try.prog o ac (W.alloc (.cells #[.int .i64 a, .int .i64 b] 57)) K Q else E := by
  obtain ⟨i, hi, hz0, hz1, hz2⟩ := info_parts info_mount
  obtain ⟨xs, hown, hxs⟩ := B.o2
  have hlt := B.lt
  have hge := B.pge
  refine step_append_lies _ hgd s x _ ho w.heap.size 57 i _ 2 16 Try.underlying26 hi hz0 hz1 hz2 rfl (by omega) v2 n2 xs hs (hown.alloc _) ⟨W.heap.size, 0, none⟩ 1 1 [.int .i64 a, .int .i64 b] hx rfl
    (World.news_of_block (cs := #[.int .i64 a, .int .i64 b]) (heap_alloc_new W _)) (by simp [Value.oneCell']) (by omega) (by unfold maxLen; omega) (by omega) (by simp; omega) (W.heap.size + 1) (by simp) ?_
  intro gg cap w6 hown6 hgrow hat hltg
  exact h _ _ _ ((B.alloc (.cells #[.int .i64 a, .int .i64 b] 57)).push2 hT hgrow (OI.push hxs hown.1 [a, b] rfl hown6))

theorem push3_step (B : Bld T kd w W g R P cs v0 v1 v2 v3 n0 n1 n2 n3 x0 x1 x2 x3) (hT : apart T) (hn : n3 ≤ 1000) (a : Int) (hgd : o.guard = none) (s x : Operand)
    (ho : o.op = .call { callee := .builtin .append, args := #[s, x], argTypes := #[27, 27] }) (hs : ac.eval s = v3) (hx : ac.eval x = .slice (some ⟨W.heap.size, 0, none⟩) 1 1)
    (h : ∀ gg cap W', Bld T kd w W' g R P cs v0 v1 v2 (.slice (some ⟨gg, 0, none⟩) (n3 + 1) cap) n0 n1 n2 (n3 + 1) x0 x1 x2 (ext n3 1 x3 [a]) → K (ac.put o.dst (.slice (some ⟨gg, 0, none⟩) (n3 + 1) cap)) W') :
    if Region.wanted o (yielded ops ac.tmps) = true then Oper.wp Try.prog o ac (W.alloc (.cells #[.int .i64 a] 59)) K Q else E := by
  obtain ⟨i, hi, hz0, hz1, hz2⟩ := info_parts info_device
  obtain ⟨xs, hown, hxs⟩ := B.o3
  have hlt := B.lt
  have hge := B.pge
  refine step_append_lies _ hgd s x _ ho w.heap.size 59 i _ 1 8 Try.underlying27 hi hz0 hz1 hz2 rfl (by omega) v3 n3 xs hs (hown.alloc _) ⟨W.heap.size, 0, none⟩ 1 1 [.int .i64 a] hx rfl
    (World.news_of_block (cs := #[.int .i64 a]) (heap_alloc_new W _)) (by simp [Value.oneCell']) (by omega) (by unfold maxLen; omega) (by omega) (by simp; omega) (W.heap.size + 1) (by simp) ?_
  intro gg cap w6 hown6 hgrow hat hltg
  exact h _ _ _ ((B.alloc (.cells #[.int .i64 a] 59)).push3 hT hgrow (OI.push hxs hown.1 [a] rfl hown6))
end

theorem Bld.start {T : TypeId} {kd : IntKind} {w w2 : World} {g : Nat} (hT : apart T) (hold : g < w.heap.size) (hc : Cur T kd w2 g) (hk : Keeps (· = g) (w.alloc (.cells zeroC 29)) w2) (cs : Array Value) :
    Bld T kd w (w2.alloc (.cells cs 29)) g w.heap.size w2.heap.size cs (.slice none 0 0) (.slice none 0 0) (.slice none 0 0) (.slice none 0 0) 0 0 0 0 (fun _ => 0) (fun _ => 0) (fun _ => 0) (fun _ => 0) := by
  have hs := hk.size
  rw [heap_size_alloc_] at hs
  have hb2 : Below w2.heap.size w2 (w2.alloc (.cells cs 29)) := (Below.refl _ _).alloc (Nat.le_refl _) _
  have hb1 : Below w.heap.size w (w.alloc (.cells zeroC 29)) := (Below.refl _ _).alloc (Nat.le_refl _) _
  exact ⟨hc.below hb2, (Keeps.of_below hb1).trans (hk.trans (Keeps.of_below hb2)), hold, heap_alloc_new _ _, by omega,
    (hb2.block _ (by omega)).trans ((hk.block _ (by rw [heap_size_alloc_]; omega) (by show ¬ w.heap.size = g; omega)).trans (heap_alloc_new _ _)), Nat.le_refl _, by omega,
    OI.nil_ _ _ _ _ _, OI.nil_ _ _ _ _ _, OI.nil_ _ _ _ _ _, OI.nil_ _ _ _ _ _⟩
theorem apart_dice : apart 61 := ⟨by decide, by decide, by decide, by decide, by decide⟩
theorem apart_cur : apart 103 := ⟨by decide, by decide, by decide, by decide, by decide⟩
end Go.Proofs.Ytmbblhnagohlhaa
