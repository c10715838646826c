/-
  The program's ReadFrames.
-/
import Derived.RangeFuncNested
import Derived.RangeFuncCalls
import Derived.Shelf.RegionOpen
import Derived.Deep.AppendLies
import Derived.Test.YtcpmkbemkhacnaaDoorFg
set_option linter.unusedVariables false
namespace Go.Proofs.YtcpmkbemkhacnaaDoor
open Go.RowKit Go.Shelf

attribute [local go_sem] Oper.semAt_some

theorem wholeFrames_any (A : Option Addr) (n c : Nat) (w : World) :
    Calls Tryd.prog 35 #[.slice A n c] w fun e w' => e = .returned (.func (.func 51) #[] #[.pointer (some ⟨w.heap.size, 0, none⟩)]) ∧ w' = w.alloc (.cells #[.slice A n c] 22) := by
  go_enter Tryd.func35, Tryd.ntmps35
  go_wp2
  go_ret
  exact ⟨rfl, rfl⟩

theorem OS.aside {w w' : World} {B b : Nat} {v : Value} {ls : List (List RecD)} (h : OS w B v ls) (hg : w.grownBy w' (some b))
    (hb : ∀ cs fr, w.heap[b]? ≠ some (.cells cs 31 fr)) (hb' : ∀ cs fr, w.heap[b]? ≠ some (.cells cs 30 fr)) : OS w' B v ls := by
  obtain ⟨vs, h1, h2⟩ := h
  refine ⟨vs, h1.kept hg ?_, (Seg.keeps (Keeps.of_grown hg) (fun i u r hi hr e => ?_) h2).top hg.size⟩
  · rcases h1.2 with ⟨rfl, _⟩ | ⟨g, cap, cur, rfl, _, hh, _⟩
    · exact .inl rfl
    · refine .inr fun e => ?_
      obtain rfl : g = b := by simpa [Value.ownBlock] using e
      exact hb _ _ hh
  · obtain ⟨u', e', ho⟩ := h2.at_ (i := i) (by rw [← h2.len]; exact (List.getElem?_eq_some_iff.1 hi).1)
    rw [hi] at e'
    cases e'
    obtain rfl : b = r := by simpa using e
    rcases ho.2 with ⟨rfl, _⟩ | ⟨g', cap', cur', rfl, _, hh', _⟩
    · simp [Value.ownBlock] at hr
    · obtain rfl : g' = b := by simpa [Value.ownBlock] using hr
      exact hb' _ _ hh'
theorem boxed_none {W : World} {B : Nat} {t e : TypeId} {v : Value} (h : Boxed W B t v) (hte : t ≠ e) : ∀ cs fr, W.heap[B]? ≠ some (.cells cs e fr) := fun cs fr hh => by
  have := (show W.heap[B]? = _ from h).symm.trans hh
  injection this with this
  injection this with _ h2 _
  exact hte h2
theorem OS.set_box {w : World} {B b : Nat} {t : TypeId} {v x : Value} {ls : List (List RecD)} (h : OS w B v ls) (hb : Boxed w b t x) (h1 : t ≠ 31) (h2 : t ≠ 30) (y : Value) : OS (w.setCell ⟨b, 0, none⟩ y) B v ls :=
  h.aside (grownBy_setCell' w b y) (boxed_none hb h1) (boxed_none hb h2)
theorem OS.put_loop {w : World} {B b : Nat} {v : Value} {rc : Loop} {ls : List (List RecD)} (h : OS w B v ls) (hb : w.heap[b]? = some (.loop rc)) (o : Obj) : OS (w.putObj b o) B v ls :=
  h.aside (grownBy_putObj' w b o) (fun cs fr e => by rw [hb] at e; cases e) (fun cs fr e => by rw [hb] at e; cases e)
theorem OS.put_deferred {w : World} {B b : Nat} {v : Value} {ds : Option (List Deferred)} {ls : List (List RecD)} (h : OS w B v ls) (hb : w.heap[b]? = some (.deferred ds)) (o : Obj) : OS (w.putObj b o) B v ls :=
  h.aside (grownBy_putObj' w b o) (fun cs fr e => by rw [hb] at e; cases e) (fun cs fr e => by rw [hb] at e; cases e)
theorem boxed_below {W W' : World} {B n : Nat} {t : TypeId} {v : Value} (h : Boxed W B t v) (hb : Below n W W') (hB : B < n) : Boxed W' B t v := (hb.block B hB).trans h

/-- ReadFrames under way: S, the heap's size when it began; two variables in boxes; the iterator's own; the loop's two blocks. -/
structure Walked (w : World) (bv : Value) (rc : Loop) (done : List (List RecD)) (p : Nat) (W : World) : Prop where
  K : Below w.heap.size w W
  lists : ∃ v, Boxed W (w.heap.size + 1) 27 v ∧ OS W w.heap.size v done
  size : Boxed W (w.heap.size + 2) 2 (.int .i64 p)
  arg : Boxed W (w.heap.size + 3) 22 bv
  defs : W.heap[w.heap.size + 4]? = some (.deferred (some []))
  loop : W.heap[w.heap.size + 5]? = some (.loop rc)
theorem Walked.z {w W : World} {bv : Value} {rc : Loop} {done : List (List RecD)} {p : Nat} (h : Walked w bv rc done p W) : w.heap.size + 5 < W.heap.size := (Array.getElem?_eq_some_iff.1 h.loop).1
theorem Walked.below {w W W' : World} {bv : Value} {rc : Loop} {done : List (List RecD)} {p : Nat} (h : Walked w bv rc done p W) (hb : Below W.heap.size W W') : Walked w bv rc done p W' := by
  have hz := h.z
  obtain ⟨v, h1, h2⟩ := h.lists
  exact ⟨h.K.trans (hb.mono h.K.size), ⟨v, boxed_below h1 hb (by omega), h2.below hb⟩, boxed_below h.size hb (by omega), boxed_below h.arg hb (by omega), (hb.block _ (by omega)).trans h.defs, (hb.block _ (by omega)).trans h.loop⟩
/-- The loop's record turned. -/
theorem Walked.turn {w W : World} {bv : Value} {rc : Loop} {done : List (List RecD)} {p : Nat} (h : Walked w bv rc done p W) (rc' : Loop) : Walked w bv rc' done p (W.putObj (w.heap.size + 5) (.loop rc')) := by
  have hz := h.z
  have hg := grownBy_putObj' W (w.heap.size + 5) (.loop rc')
  obtain ⟨v, h1, h2⟩ := h.lists
  exact ⟨h.K.grown hg h.K.size (fun k e => by cases e; omega), ⟨v, h1.kept hg (by simp), h2.put_loop h.loop _⟩, h.size.kept hg (by simp), h.arg.kept hg (by simp), (World.putObj_heap_other (by omega)).trans h.defs, World.putObj_heap_same hz⟩
end Go.Proofs.YtcpmkbemkhacnaaDoor
