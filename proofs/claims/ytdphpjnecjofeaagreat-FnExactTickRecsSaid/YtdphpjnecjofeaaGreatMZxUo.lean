/-
  The model's NewState.
-/
import Derived.Test.YtdphpjnecjofeaaGreatMZ3
import Derived.Test.YtdphpjnecjofeaaGreatMZ1
import Derived.Test.YtdphpjnecjofeaaGreatMZ4
import Derived.Deep.DeepCutAuto
/- Uo -/
set_option linter.unusedVariables false
namespace Go.Proofs.YtdphpjnecjofeaaGreat
open Go.RowKit

theorem alive_any (x : Int) (w : World) : Calls Tryz.prog 83 #[.int .i64 x] w fun e w' => e = .returned (.bool (aliveB x)) ∧ w = w' := by
  go_enter Tryz.func83, Tryz.ntmps83
  go_wp2_with fail
  refine (in_any _ _ _ _).mono ?_
  rintro e w' ⟨rfl, rfl⟩
  go_wp2
  go_ret
  exact ⟨rfl, rfl⟩

theorem alloc_here {W : World} {o : Obj} {g : Nat} (hg : W.heap.size = g) : (W.alloc o).heap[g]? = some o := by
  subst hg
  exact heap_alloc_new W o
theorem alloc_there {W : World} {o : Obj} {g : Nat} (hg : g < W.heap.size) : (W.alloc o).heap[g]? = W.heap[g]? := ((Below.refl W.heap.size W).alloc (Nat.le_refl _) o).block g hg

theorem own_of_heap {w : World} {B e k n g : Nat} {xs : List Value} {cur : Array Value} (hh : w.heap[g]? = some (.cells cur e)) (hc : cur = xs.toArray) (hl : xs.length = n * k) (hb : B ≤ g) (hn : n ≤ maxLen) :
    w.ownsRow B e k (.slice (some ⟨g, 0, none⟩) n n) n xs := ⟨hl, .inr ⟨g, n, cur, rfl, hb, hh, Nat.le_refl _, hn, by subst hc; simp [hl], by subst hc; simp [← hl]⟩⟩
/-- A new state being made. -/
structure NewB (w wr : World) (g0 g1 g2 g3 n0 n2 n3 : Nat) (L1 : List (Bool × Int)) (L2 : List Bool) : Prop where
  l1 : L1.length = n2
  l2 : L2.length = n3
  S : Own w wr g3 (stC (some ⟨g0, 0, none⟩) (some ⟨g1, 0, none⟩) (some ⟨g2, 0, none⟩) none n0 n0 n2 n2 n3 n3 0 0 0 false 0 0 0 0 0 0)
  O : Own w wr (w.heap.size + 1) (stC none none none none 0 0 0 0 0 0 0 0 0 false 0 0 0 0 0 0)
  r0 : wr.ownsRow (w.heap.size + 2) 109 2 (.slice (some ⟨g0, 0, none⟩) n0 n0) n0 (podCs (List.replicate n0 (0, 0)))
  r1 : wr.ownsRow (w.heap.size + 2) 113 2 (.slice (some ⟨g1, 0, none⟩) n2 n2) n2 (mntCs L1)
  r2 : wr.ownsRow (w.heap.size + 2) 4 1 (.slice (some ⟨g2, 0, none⟩) n3 n3) n3 (devCs L2)
theorem NewB.step {w wr w2 : World} {g0 g1 g2 g3 n0 n2 n3 : Nat} {L1 : List (Bool × Int)} {L2 : List Bool} (h : NewB w wr g0 g1 g2 g3 n0 n2 n3 L1 L2) (hb : Below wr.heap.size wr w2) : NewB w w2 g0 g1 g2 g3 n0 n2 n3 L1 L2 :=
  ⟨h.l1, h.l2, h.S.step hb, h.O.step hb, ownsRow_below h.r0 hb, ownsRow_below h.r1 hb, ownsRow_below h.r2 hb⟩
end Go.Proofs.YtdphpjnecjofeaaGreat
