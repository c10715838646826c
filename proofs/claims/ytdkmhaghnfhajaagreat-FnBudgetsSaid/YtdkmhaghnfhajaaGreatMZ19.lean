/-
  The program's AppliedRec.
-/
import Derived.Test.YtdkmhaghnfhajaaGreatMZ6
import Derived.Test.YtdkmhaghnfhajaaGreatMZ17
import Derived.Test.YtdkmhaghnfhajaaGreatMZxWc
import Derived.Test.YtdkmhaghnfhajaaGreatMZxDm
import Derived.Test.YtdkmhaghnfhajaaGreatMZ15
import Derived.Test.YtdkmhaghnfhajaaGreatMZ2
import Derived.OwnWalk
import Derived.Deep.RegionLaw
import Derived.StillTailTactics
import Derived.Deep.AppendLies
import Derived.Test.YtdkmhaghnfhajaaGreatMZ3
import Derived.BigQuiet
import Derived.RegionTactic
import Derived.BigRegion
import Derived.Test.YtdkmhaghnfhajaaGreatMZxZk
import Derived.Test.YtdkmhaghnfhajaaGreatMZ0
import Derived.Maps.OwnSet
import Derived.Test.YtdkmhaghnfhajaaGreatMZ8
import Derived.Test.YtdkmhaghnfhajaaGreatMZ16
import Derived.Test.YtdkmhaghnfhajaaGreatMZxVbS
import Derived.Test.YtdkmhaghnfhajaaGreatMZ18
/- Eb -/
set_option linter.unusedVariables false
namespace Go.Proofs.YtdkmhaghnfhajaaGreat
open Go.RowKit

theorem info_recs : (Tryz.prog.info? 72).map (fun i => (i.zero, i.size, i.bytes)) = some (some (.slice none 0 0), 1, 24) := by kernel_rfl
def listAt (ls : List (List RecD)) (i : Nat) : List RecD := ls.getD i []
/-- A slice of the lists ls, lying below block B. -/
structure St (w : World) (B : Nat) (v : Value) (ls : List (List RecD)) : Prop where
  it : ∃ A c, v = .slice A ls.length c ∧ (0 < ls.length → ∃ b off, A = some ⟨b, off, none⟩ ∧ b < B ∧ ∀ i, i < ls.length → ∃ u, w.cell? ⟨b, off + i, none⟩ = some u ∧ Rt w B u (listAt ls i))
  len : ls.length ≤ maxLen
theorem St.below {w w' : World} {B B' : Nat} {v : Value} {ls : List (List RecD)} (h : St w B v ls) (hb : Below B' w w') (hB : B ≤ B') : St w' B v ls := by
  obtain ⟨⟨A, c, rfl, hc⟩, hl⟩ := h
  refine ⟨⟨A, c, rfl, fun hn => ?_⟩, hl⟩
  obtain ⟨b, off, rfl, hlt, hc⟩ := hc hn
  refine ⟨b, off, rfl, hlt, fun i hi => ?_⟩
  obtain ⟨u, hu, hr⟩ := hc i hi
  exact ⟨u, (hb.cell (p := ⟨b, off + i, none⟩) (by show b < B'; omega)).trans hu, hr.below hb hB⟩
theorem St.more {w : World} {B B' : Nat} {v : Value} {ls : List (List RecD)} (h : St w B v ls) (hB : B ≤ B') : St w B' v ls := by
  obtain ⟨⟨A, c, rfl, hc⟩, hl⟩ := h
  refine ⟨⟨A, c, rfl, fun hn => ?_⟩, hl⟩
  obtain ⟨b, off, rfl, hlt, hc⟩ := hc hn
  refine ⟨b, off, rfl, by omega, fun i hi => ?_⟩
  obtain ⟨u, hu, hr⟩ := hc i hi
  exact ⟨u, hu, hr.more hB⟩
theorem St.go {w w' : World} {v : Value} {ls : List (List RecD)} (h : St w w.heap.size v ls) (hb : Below w.heap.size w w') : St w' w'.heap.size v ls := (h.below hb (Nat.le_refl _)).more hb.size
theorem St.cell {w : World} {B : Nat} {A : Option Addr} {n c : Nat} {ls : List (List RecD)} (h : St w B (.slice A n c) ls) {i : Nat} (hi : i < ls.length) :
    ∃ b off u, A = some ⟨b, off, none⟩ ∧ b < B ∧ w.cell? ⟨b, off + i, none⟩ = some u ∧ Rt w B u (listAt ls i) := by
  obtain ⟨⟨A', c', hv, hc⟩, hl⟩ := h
  injection hv with h1 _ _
  subst h1
  obtain ⟨b, off, e, hlt, hc⟩ := hc (by omega)
  obtain ⟨u, hu, hr⟩ := hc i hi
  exact ⟨b, off, u, e, hlt, hu, hr⟩

/-- The slices vs hold the lists ls, in blocks from B to T, each beyond those ahead of it. -/
def Seg (w : World) : Nat → Nat → List Value → List (List RecD) → Prop
  | B, T, [], [] => B ≤ T
  | B, T, v :: vs, l :: ls => ∃ M, B ≤ M ∧ OR w B v l ∧ (∀ r, v.ownBlock = some r → r < M) ∧ Seg w M T vs ls
  | _, _, _, _ => False
theorem Seg.below {w w' : World} {T : Nat} (hb : Below w.heap.size w w') : ∀ {vs : List Value} {ls : List (List RecD)} {B : Nat}, Seg w B T vs ls → Seg w' B T vs ls
  | [], [], _, h => h
  | [], _ :: _, _, h => h.elim
  | _ :: _, [], _, h => h.elim
  | v :: vs, l :: ls, B, ⟨M, h1, h2, h3, h4⟩ => ⟨M, h1, h2.below hb, h3, Seg.below hb h4⟩
theorem Seg.base {w : World} {T : Nat} : ∀ {vs : List Value} {ls : List (List RecD)} {B B' : Nat}, B' ≤ B → Seg w B T vs ls → Seg w B' T vs ls
  | [], [], _, _, hB, h => Nat.le_trans hB h
  | [], _ :: _, _, _, _, h => h.elim
  | _ :: _, [], _, _, _, h => h.elim
  | v :: vs, l :: ls, B, B', hB, ⟨M, h1, h2, h3, h4⟩ => ⟨M, Nat.le_trans hB h1, h2.base hB, h3, h4⟩
theorem Seg.top {w : World} {T T' : Nat} (hT : T ≤ T') : ∀ {vs : List Value} {ls : List (List RecD)} {B : Nat}, Seg w B T vs ls → Seg w B T' vs ls
  | [], [], _, h => Nat.le_trans h hT
  | [], _ :: _, _, h => h.elim
  | _ :: _, [], _, h => h.elim
  | v :: vs, l :: ls, B, ⟨M, h1, h2, h3, h4⟩ => ⟨M, h1, h2, h3, Seg.top hT h4⟩
theorem Seg.len {w : World} {T : Nat} : ∀ {vs : List Value} {ls : List (List RecD)} {B : Nat}, Seg w B T vs ls → vs.length = ls.length
  | [], [], _, _ => rfl
  | [], _ :: _, _, h => h.elim
  | _ :: _, [], _, h => h.elim
  | v :: vs, l :: ls, B, ⟨M, h1, h2, h3, h4⟩ => by rw [List.length_cons, List.length_cons, Seg.len h4]
theorem Seg.snoc {w : World} {T T' : Nat} {v : Value} {l : List RecD} (hv : OR w T v l) (hT : T ≤ T') (ht : ∀ r, v.ownBlock = some r → r < T') :
    ∀ {vs : List Value} {ls : List (List RecD)} {B : Nat}, Seg w B T vs ls → Seg w B T' (vs ++ [v]) (ls ++ [l])
  | [], [], B, h => ⟨T', Nat.le_trans h hT, hv.base h, ht, Nat.le_refl _⟩
  | [], _ :: _, _, h => h.elim
  | _ :: _, [], _, h => h.elim
  | v :: vs, l :: ls, B, ⟨M, h1, h2, h3, h4⟩ => ⟨M, h1, h2, h3, Seg.snoc hv hT ht h4⟩
theorem Seg.at_ {w : World} {T : Nat} : ∀ {vs : List Value} {ls : List (List RecD)} {B i : Nat}, Seg w B T vs ls → i < ls.length → ∃ v, vs[i]? = some v ∧ OR w B v (listAt ls i)
  | [], [], _, _, _, hi => absurd hi (Nat.not_lt_zero _)
  | [], _ :: _, _, _, h, _ => h.elim
  | _ :: _, [], _, _, h, _ => h.elim
  | v :: vs, l :: ls, B, 0, ⟨M, h1, h2, h3, h4⟩, _ => ⟨v, rfl, h2⟩
  | v :: vs, l :: ls, B, i + 1, ⟨M, h1, h2, h3, h4⟩, hi => by
    obtain ⟨v, e, h⟩ := Seg.at_ h4 (i := i) (by simpa using hi)
    exact ⟨v, by simpa using e, by unfold listAt at h ⊢; simpa using h.base h1⟩
theorem Seg.lo {w : World} {T : Nat} : ∀ {vs : List Value} {ls : List (List RecD)} {B i : Nat} {v : Value} {r : Nat}, Seg w B T vs ls → vs[i]? = some v → v.ownBlock = some r → B ≤ r
  | [], [], _, _, _, _, _, hi, _ => by simp at hi
  | [], _ :: _, _, _, _, _, h, _, _ => h.elim
  | _ :: _, [], _, _, _, _, h, _, _ => h.elim
  | v :: vs, l :: ls, B, 0, v', r, ⟨M, h1, h2, h3, h4⟩, hi, hr => by
    obtain rfl : v = v' := by simpa using hi
    exact (h2.lt hr).1
  | v :: vs, l :: ls, B, i + 1, v', r, ⟨M, h1, h2, h3, h4⟩, hi, hr => Nat.le_trans h1 (Seg.lo h4 (i := i) (by simpa using hi) hr)
theorem Seg.apart {w : World} {T : Nat} : ∀ {vs : List Value} {ls : List (List RecD)} {B i j : Nat} {v v' : Value} {r r' : Nat}, Seg w B T vs ls → i < j → vs[i]? = some v → vs[j]? = some v' → v.ownBlock = some r → v'.ownBlock = some r' → r < r'
  | [], [], _, _, _, _, _, _, _, _, _, hi, _, _, _ => by simp at hi
  | [], _ :: _, _, _, _, _, _, _, _, h, _, _, _, _, _ => h.elim
  | _ :: _, [], _, _, _, _, _, _, _, h, _, _, _, _, _ => h.elim
  | v :: vs, l :: ls, B, i, 0, _, _, _, _, _, hij, _, _, _, _ => absurd hij (Nat.not_lt_zero _)
  | v :: vs, l :: ls, B, 0, j + 1, v1, v2, r, r', ⟨M, h1, h2, h3, h4⟩, _, hi, hj, hr, hr' => by
    obtain rfl : v = v1 := by simpa using hi
    exact Nat.lt_of_lt_of_le (h3 r hr) (Seg.lo h4 (i := j) (by simpa using hj) hr')
  | v :: vs, l :: ls, B, i + 1, j + 1, v1, v2, r, r', ⟨M, h1, h2, h3, h4⟩, hij, hi, hj, hr, hr' =>
    Seg.apart h4 (i := i) (j := j) (by omega) (by simpa using hi) (by simpa using hj) hr hr'

/-- A row of lists of the call's own, each in memory of its own. -/
def OS (w : World) (B : Nat) (v : Value) (ls : List (List RecD)) : Prop := ∃ vs, w.ownsRow B 72 1 v ls.length vs ∧ Seg w B w.heap.size vs ls
theorem OS.below {w w' : World} {B : Nat} {v : Value} {ls : List (List RecD)} (h : OS w B v ls) (hb : Below w.heap.size w w') : OS w' B v ls := by
  obtain ⟨vs, h1, h2⟩ := h
  exact ⟨vs, ownsRow_below h1 hb, (h2.below hb).top hb.size⟩
theorem OS.base {w : World} {B B' : Nat} {v : Value} {ls : List (List RecD)} (h : OS w B v ls) (hb : B' ≤ B) : OS w B' v ls := by
  obtain ⟨vs, h1, h2⟩ := h
  exact ⟨vs, ownsRow_base h1 hb, h2.base hb⟩
theorem OS.lt {w : World} {B : Nat} {v : Value} {ls : List (List RecD)} (h : OS w B v ls) {r : Nat} (hr : v.ownBlock = some r) : B ≤ r ∧ r < w.heap.size := by
  obtain ⟨vs, h1, h2⟩ := h
  exact World.ownsRow.lt h1 r hr
theorem OS.len {w : World} {B : Nat} {v : Value} {ls : List (List RecD)} (h : OS w B v ls) : ls.length ≤ maxLen := by
  obtain ⟨vs, h, -⟩ := h
  rcases h.2 with ⟨_, h0⟩ | ⟨g, cap, cur, _, _, _, hnc, hcm, _⟩
  · rw [h0]; exact Nat.zero_le _
  · exact Nat.le_trans hnc hcm
theorem OS.empty {w : World} {B : Nat} (hB : B ≤ w.heap.size) : OS (w.alloc (.cells #[] 72)) B (.slice (some ⟨w.heap.size, 0, none⟩) 0 0) [] := by
  have := World.ownsRow_made (base := w.heap.size) (e := 72) (size := 1) w #[] 0 (by simp) (Nat.zero_le _) rfl
  exact ⟨[], ownsRow_base (by simpa using this) hB, by simp [Seg]; omega⟩
/-- What lies where. -/
theorem OS.open_ {w : World} {B : Nat} {v : Value} {ls : List (List RecD)} (h : OS w B v ls) :
    ∃ (A : Option Addr) (c g : Nat) (vs : List Value), v = .slice A ls.length c ∧ (0 < ls.length → A = some ⟨g, 0, none⟩) ∧ B ≤ g ∧ (0 < ls.length → g < w.heap.size) ∧ Seg w B w.heap.size vs ls ∧
      (∀ (i : Nat) (u : Value), vs[i]? = some u → w.cell? ⟨g, i, none⟩ = some u ∧ w.frozen? ⟨g, i, none⟩ = false) ∧ (∀ (i : Nat) (u : Value) (r : Nat), vs[i]? = some u → u.ownBlock = some r → r ≠ g) := by
  obtain ⟨vs, h1, h2⟩ := h
  have hlen := h2.len
  rcases h1.2 with ⟨rfl, h0⟩ | ⟨g, cap, cur, rfl, hb, hh, hnc, _⟩
  · refine ⟨none, 0, B, vs, by rw [h0], fun h => by omega, Nat.le_refl _, fun h => by omega, h2, fun i u hi => ?_, fun i u r hi => ?_⟩
    all_goals
      have : vs = [] := List.eq_nil_of_length_eq_zero (by omega)
      subst this
      simp at hi
  · refine ⟨_, cap, g, vs, rfl, fun _ => rfl, hb, fun _ => (Array.getElem?_eq_some_iff.1 hh).1, h2, fun i u hi => ⟨?_, frozen_of_row _ _ _ _ _ hh⟩, fun i u r hi hr e => ?_⟩
    · have := h1.cells (g := g) rfl i _ hi
      rwa [add_zero_block] at this
    · subst e
      obtain ⟨u', e', ho⟩ := h2.at_ (i := i) (by rw [← hlen]; exact (List.getElem?_eq_some_iff.1 hi).1)
      rw [hi] at e'
      cases e'
      rcases ho.2 with ⟨rfl, _⟩ | ⟨g', cap', cur', rfl, _, hh', _⟩
      · simp [Value.ownBlock] at hr
      · obtain rfl : g' = r := by simpa [Value.ownBlock] using hr
        rw [hh] at hh'
        injection hh' with hh'
        injection hh' with _ ht _
        exact absurd ht (by decide)
theorem OS.st {w : World} {B : Nat} {v : Value} {ls : List (List RecD)} (h : OS w B v ls) : St w w.heap.size v ls := by
  have hl := h.len
  obtain ⟨A, c, g, vs, rfl, hA, hB, hg, hS, hC, -⟩ := h.open_
  refine ⟨⟨A, c, rfl, fun hn => ⟨g, 0, hA hn, hg hn, fun i hi => ?_⟩⟩, hl⟩
  obtain ⟨u, hu, ho⟩ := hS.at_ hi
  exact ⟨u, by rw [Nat.zero_add]; exact (hC i u hu).1, ho.rt⟩
theorem Keeps.of_grownE {w w' : World} {row : Option Nat} (h : w.grownBy w' row) : Keeps (fun b => row = some b) w w' :=
  ⟨h.os, h.tape, h.output, h.size, fun b hb hn => h.block b hb (fun e => hn e.symm)⟩
theorem OR.keepsV {S : Nat → Prop} {w w' : World} {B : Nat} {v : Value} {l : List RecD} (h : OR w B v l) (k : Keeps S w w') (hS : ∀ r, v.ownBlock = some r → ¬ S r) : OR w' B v l := by
  refine ⟨h.1, ?_⟩
  rcases h.2 with h0 | ⟨g, cap, cur, rfl, hb, hh, hr⟩
  · exact .inl h0
  · exact .inr ⟨g, cap, cur, rfl, hb, (k.block g (Array.getElem?_eq_some_iff.1 hh).1 (hS g rfl)).trans hh, hr⟩
theorem Seg.keeps {S : Nat → Prop} {w w' : World} {T : Nat} (k : Keeps S w w') : ∀ {vs : List Value} {ls : List (List RecD)} {B : Nat}, (∀ (i : Nat) (u : Value) (r : Nat), vs[i]? = some u → u.ownBlock = some r → ¬ S r) → Seg w B T vs ls → Seg w' B T vs ls
  | [], [], _, _, h => h
  | [], _ :: _, _, _, h => h.elim
  | _ :: _, [], _, _, h => h.elim
  | v :: vs, l :: ls, B, hS, ⟨M, h1, h2, h3, h4⟩ => ⟨M, h1, h2.keepsV k (fun r hr => hS 0 v r rfl hr), h3, Seg.keeps k (fun i u r hi hr => hS (i + 1) u r (by simpa using hi) hr) h4⟩
theorem row_apartS {w : World} {B B' n r : Nat} {v u : Value} {l : List RecD} {vs : List Value} (h : w.ownsRow B 72 1 v n vs) (hu : OR w B' u l) (hv : v.ownBlock = some r) : ¬ u.ownBlock = some r := fun hr => by
  rcases h.2 with ⟨rfl, _⟩ | ⟨g, cap, cur, rfl, hb, hh, _⟩
  · simp [Value.ownBlock] at hv
  · rcases hu.2 with ⟨rfl, _⟩ | ⟨g', cap', cur', rfl, _, hh', _⟩
    · simp [Value.ownBlock] at hr
    · obtain rfl : g = r := by simpa [Value.ownBlock] using hv
      obtain rfl : g' = g := by simpa [Value.ownBlock] using hr
      rw [hh] at hh'
      injection hh' with hh'
      injection hh' with _ ht _
      exact absurd ht (by decide)
theorem OS.push {w w' : World} {B T : Nat} {v v' u : Value} {l : List RecD} {ls : List (List RecD)} {vs : List Value} (h0 : w.ownsRow B 72 1 v ls.length vs) (hS : Seg w B T vs ls) (hT : T ≤ w.heap.size) (hu : OR w T u l)
    (k : Keeps (fun b => v.ownBlock = some b) w w') (h' : w'.ownsRow B 72 1 v' (ls.length + 1) (vs ++ [u])) : OS w' B v' (ls ++ [l]) := by
  refine ⟨vs ++ [u], by rw [List.length_append]; exact h', ?_⟩
  refine (Seg.keeps k (fun i x r hi hr hv => ?_) (Seg.snoc hu hT (fun r hr => (hu.lt hr).2) hS)).top k.size
  by_cases hlt : i < vs.length
  · rw [List.getElem?_append_left hlt] at hi
    obtain ⟨x', e, ho⟩ := hS.at_ (i := i) (by rw [← hS.len]; exact hlt)
    rw [hi] at e
    cases e
    exact row_apartS h0 ho hv hr
  · have : x = u := by
      have hlt2 := (List.getElem?_eq_some_iff.1 hi).1
      simp at hlt2
      obtain rfl : i = vs.length := by omega
      simpa using hi.symm
    subst this
    exact row_apartS h0 hu hv hr
theorem St.keeps {S : Nat → Prop} {w w' : World} {B : Nat} {v : Value} {ls : List (List RecD)} (h : St w B v ls) (hk : Keeps S w w') (hB : B ≤ w.heap.size) (hS : ∀ b, b < B → ¬ S b) : St w' B v ls :=
  h.below (hk.below (B := B) hB hS) (Nat.le_refl _)
theorem OS.keeps {S : Nat → Prop} {w w' : World} {B : Nat} {v : Value} {ls : List (List RecD)} (h : OS w B v ls) (hk : Keeps S w w') (hS : ∀ r, B ≤ r → ¬ S r) : OS w' B v ls := by
  obtain ⟨vs, ⟨hl, ho⟩, h2⟩ := h
  refine ⟨vs, ⟨hl, ho.imp id ?_⟩, (Seg.keeps hk (fun i u r hi hr => hS r (h2.lo hi hr)) h2).top hk.size⟩
  rintro ⟨g, cap, cur, hv, hb', hh, rest⟩
  exact ⟨g, cap, cur, hv, hb', (hk.block g (Array.getElem?_eq_some_iff.1 hh).1 (hS g hb')).trans hh, rest⟩
end Go.Proofs.YtdkmhaghnfhajaaGreat
/- Na -/
set_option linter.unusedVariables false
namespace Go.Proofs.YtdkmhaghnfhajaaGreat
open Go.RowKit

theorem load_state {ops : Array Oper} {rest : List Oper} {dst : Option Tmp} {ty : TypeId} {pos : String} {after : Array Edge} {a : Act} {w : World} {Q : Exit → Act → World → Prop} {g x : Nat} {cs : Array Value}
    (hx : a.eval (.tmp x) = .pointer (some ⟨g, 0, none⟩)) (hg : w.heap[g]? = some (.cells cs 38)) (hi : (Tryz.prog.info? 38).map (·.size) = some cs.size)
    (h : wpList Tryz.prog ops Q rest (a.put dst (.agg cs)) w) : wpList Tryz.prog ops Q (Oper.mk dst (.load 38 (.tmp x)) ty pos after none :: rest) a w :=
  wpList_load_row rfl 38 (.tmp x) rfl g hx _ cs _ _ hg Tryz.underlying38 rfl hi h
theorem runLs_append {d : PlanD} : ∀ (a b : List (List RecD)) (s : StD), runLs d s (a ++ b) = (runLs d s a).bind fun x => runLs d x b
  | [], b, s => rfl
  | l :: a, b, s => by
    simp only [List.cons_append, runLs]
    cases runR d s l with
    | none => rfl
    | some y => exact runLs_append a b y
theorem ls_split {ls : List (List RecD)} {k : Nat} (hk : k < ls.length) : ls = ls.take k ++ listAt ls k :: ls.drop (k + 1) := by
  have h1 := List.take_append_drop k ls
  rw [List.drop_eq_getElem_cons hk] at h1
  have h2 : listAt ls k = ls[k] := by simp [listAt, List.getD, hk]
  rw [h2]
  exact h1.symm
theorem runLs_stop {d : PlanD} {s t : StD} {ls : List (List RecD)} {k : Nat} (hk : k < ls.length) (h : runLs d s (ls.take k) = some t) (hr : runR d t (listAt ls k) = none) : runLs d s ls = none := by
  rw [ls_split hk, runLs_append, h]
  simp [runLs, hr]
theorem runLs_next {d : PlanD} {s t x : StD} {ls : List (List RecD)} {k : Nat} (hk : k < ls.length) (h : runLs d s (ls.take k) = some t) (hr : runR d t (listAt ls k) = some x) : runLs d s (ls.take (k + 1)) = some x := by
  have e : ls.take (k + 1) = ls.take k ++ [listAt ls k] := by
    rw [List.take_add_one]
    congr 1
    simp [listAt, List.getD, hk]
  rw [e, runLs_append, h]
  simp [runLs, hr]
def replayD (d : PlanD) (ls : List (List RecD)) : StD × Bool := match runLs d (newS d) ls with | some x => (x, true) | none => (zeroS, false)

set_option maxRecDepth 100000 in
set_option maxHeartbeats 8000000 in
theorem l15Replay_any (pv lv : Value) (d : PlanD) (ls : List (List RecD)) (w : World) (hp : IsPlan w w.heap.size pv d) (hl : St w w.heap.size lv ls) (hok : planOkB d = true) :
    Calls Tryz.prog 92 #[pv, lv] w (MadeSB w (replayD d ls)) := by
  have HP := Lib.hid hp
  have HL := Lib.hid hl
  have HOK := Lib.hid (newS_ok hok)
  have HI : Hid ((Tryz.prog.info? 38).map (·.size) = some 12) := Lib.hid (by kernel_rfl)
  obtain ⟨⟨P0, P1, P2, P3, k0, k1, k2, k3, rfl, -, -, -, -⟩, -, -, -, -⟩ := hp
  obtain ⟨⟨LA, lc, rfl, -⟩, hll⟩ := hl
  unfold maxLen at hll
  obtain ⟨ans, hans⟩ : ∃ ans, replayD d ls = ans := ⟨_, rfl⟩
  rw [hans]
  have HANS := Lib.hid hans
  clear hans hok
  have XP := (Own.box w (planC P0 P1 P2 P3 d.n0 k0 d.n1 k1 d.n2 k2 d.n3 k3 d.l d.p d.t) 29).alloc (.cells (stC none none none none 0 0 0 0 0 0 0 0 0 false 0 0 0 0 0 0) 38)
  have HZ := heap_alloc_new (w.alloc (.cells (planC P0 P1 P2 P3 d.n0 k0 d.n1 k1 d.n2 k2 d.n3 k3 d.l d.p d.t) 29)) (.cells (stC none none none none 0 0 0 0 0 0 0 0 0 false 0 0 0 0 0 0) 38)
  simp only [heap_size_alloc_] at HZ
  have K := XP.K
  go_enter Tryz.func92, Tryz.ntmps92
  have hC := XP.C
  go_wp2_with fail
  generalize (w.alloc (.cells (planC P0 P1 P2 P3 d.n0 k0 d.n1 k1 d.n2 k2 d.n3 k3 d.l d.p d.t) 29)).alloc (.cells (stC none none none none 0 0 0 0 0 0 0 0 0 false 0 0 0 0 0 0) 38) = w0 at XP HZ K hC ⊢
  refine (specNewState_any _ d w0 ((HP.out.below K (Nat.le_refl _)).more K.size)).mono ?_
  rintro e w1 ⟨vs, rfl, OT, hb⟩
  replace OT := OT.base K.size
  replace XP := XP.step hb
  replace HZ := (hb.block _ (Array.getElem?_eq_some_iff.1 HZ).1).trans HZ
  replace K := K.trans (hb.mono K.size)
  clear hb hC
  obtain ⟨s0, hs0⟩ : ∃ s, newS d = s := ⟨_, rfl⟩
  rw [hs0] at OT
  have HS0 := Lib.hid hs0
  clear hs0
  obtain ⟨y0, y1, y2, y3, rfl, -⟩ := OT.it
  obtain ⟨⟨B0, e0, rfl⟩, ⟨B1, e1, rfl⟩, ⟨B2, e2, rfl⟩, ⟨B3, e3, rfl⟩⟩ := OT.shapes
  have hz1 := (Array.getElem?_eq_some_iff.1 HZ).1
  have HB := heap_alloc_new w1 (.cells (stC none none none none 0 0 0 0 0 0 0 0 0 false 0 0 0 0 0 0) 38)
  have hb : Below w1.heap.size w1 (w1.alloc (.cells (stC none none none none 0 0 0 0 0 0 0 0 0 false 0 0 0 0 0 0) 38)) := (Below.refl _ _).alloc (Nat.le_refl _) _
  replace XP := XP.step hb
  replace HZ := (hb.block _ (Array.getElem?_eq_some_iff.1 HZ).1).trans HZ
  replace K := K.trans (hb.mono K.size)
  replace OT := OT.below hb
  clear hb
  go_upto_region 2 with (
    (with_reducible refine store_state (x := 6) (y := 11) (g := w1.heap.size) (cs := stC B0 B1 B2 B3 s0.pods.length e0 s0.mnts.length e1 s0.devs.length e2 s0.lks.length e3 s0.ph s0.co s0.ck s0.bo s0.ba s0.lb s0.gd s0.pr) ?_ ?_ HB ?_ ?_ ?_ ?_)
    · rfl
    · rfl
    · exact HI.out
    · rfl
    · simp [Value.oneCell'])
  have kk := keepsRow_ (w1.alloc (.cells (stC none none none none 0 0 0 0 0 0 0 0 0 false 0 0 0 0 0 0) 38)) w1.heap.size (stC B0 B1 B2 B3 s0.pods.length e0 s0.mnts.length e1 s0.devs.length e2 s0.lks.length e3 s0.ph s0.co s0.ck s0.bo s0.ba s0.lb s0.gd s0.pr)
  replace XP := XP.keeps kk (by rintro b rfl; omega) (by show ¬ w.heap.size = w1.heap.size; omega)
  replace HZ := (setRow_other (w1.alloc (.cells (stC none none none none 0 0 0 0 0 0 0 0 0 false 0 0 0 0 0 0) 38)) w1.heap.size _ (stC B0 B1 B2 B3 s0.pods.length e0 s0.mnts.length e1 s0.devs.length e2 s0.lks.length e3 s0.ph s0.co s0.ck s0.bo s0.ba s0.lb s0.gd s0.pr) (by omega)).trans HZ
  replace OT := OT.keepsT kk HB (by decide)
  replace K := belowRow_ K (B := w1.heap.size) (by omega) (stC B0 B1 B2 B3 s0.pods.length e0 s0.mnts.length e1 s0.devs.length e2 s0.lks.length e3 s0.ph s0.co s0.ck s0.bo s0.ba s0.lb s0.gd s0.pr)
  replace HB := setRow_heap _ _ _ (stC B0 B1 B2 B3 s0.pods.length e0 s0.mnts.length e1 s0.devs.length e2 s0.lks.length e3 s0.ph s0.co s0.ck s0.bo s0.ba s0.lb s0.gd s0.pr) _ _ HB
  clear kk
  generalize (w1.alloc (.cells (stC none none none none 0 0 0 0 0 0 0 0 0 false 0 0 0 0 0 0) 38)).setRow w1.heap.size (stC B0 B1 B2 B3 s0.pods.length e0 s0.mnts.length e1 s0.devs.length e2 s0.lks.length e3 s0.ph s0.co s0.ck s0.bo s0.ba s0.lb s0.gd s0.pr) = w2 at XP HZ OT K HB ⊢
  generalize w1.heap.size = g at HB hz1 ⊢
  go_wp2_with fail
  go_loopw [7] (fun i wr => ∃ (k : Nat) (t : StD) (C0 C1 C2 C3 : Option Addr) (f0 f1 f2 f3 : Nat), k ≤ ls.length ∧ i = .int .i64 k ∧ runLs d s0 (ls.take k) = some t ∧ StOk d t ∧ Below w.heap.size w wr ∧ Own w wr w.heap.size (planC P0 P1 P2 P3 d.n0 k0 d.n1 k1 d.n2 k2 d.n3 k3 d.l d.p d.t) ∧ wr.heap[w.heap.size + 1]? = some (.cells (stC none none none none 0 0 0 0 0 0 0 0 0 false 0 0 0 0 0 0) 38) ∧ wr.heap[g]? = some (.cells (stC C0 C1 C2 C3 t.pods.length f0 t.mnts.length f1 t.devs.length f2 t.lks.length f3 t.ph t.co t.ck t.bo t.ba t.lb t.gd t.pr) 38) ∧ OwnSt wr w.heap.size (.agg (stC C0 C1 C2 C3 t.pods.length f0 t.mnts.length f1 t.devs.length f2 t.lks.length f3 t.ph t.co t.ck t.bo t.ba t.lb t.gd t.pr)) t) (fun i _ => ls.length - (intOf i).toNat)
  case atStart => exact ⟨0, s0, B0, B1, B2, B3, e0, e1, e2, e3, Nat.zero_le _, rfl, rfl, by rw [← HS0.out]; exact HOK.out, K, XP, HZ, HB, OT⟩
  case round =>
    clear K XP HZ HB OT
    obtain ⟨k, t, C0, C1, C2, C3, f0, f1, f2, f3, hk, rfl, hrun, ht, K, XP, HZ, HB, OT⟩ := hrel
    have HRUN := Lib.hid hrun
    have HT := Lib.hid ht
    clear hrun ht
    by_cases hlt : k < ls.length
    · obtain ⟨⟨LA', lc', hv, hcells⟩, -⟩ := HL.out
      injection hv with hv1 hv2 hv3
      subst hv1 hv3
      obtain ⟨bl, off, rfl, hql, hcell⟩ := hcells (by omega)
      obtain ⟨u, hu, hrt⟩ := hcell k hlt
      have HRT := Lib.hid hrt
      obtain ⟨⟨AL, cl, rfl, -⟩, -⟩ := hrt
      have q0 := (K.cell (p := ⟨bl, off + k, none⟩) hql).trans hu
      clear hcell hu hcells hv2
      obtain ⟨x, xb, hxb⟩ : ∃ x b, allS d t (listAt ls k) = (x, b) := by
        generalize allS d t (listAt ls k) = q
        exact ⟨q.1, q.2, rfl⟩
      have HNO : Hid (xb = false → ans = (zeroS, false)) := Lib.hid fun e => by
        subst e
        cases hr : runR d t (listAt ls k) with
        | none =>
          rw [← HANS.out]
          unfold replayD
          rw [HS0.out, runLs_stop hlt HRUN.out hr]
        | some y =>
          rw [allS_some hr] at hxb
          injection hxb with _ h2
          cases h2
      have HYES : Hid (xb = true → runLs d s0 (ls.take (k + 1)) = some x ∧ StOk d x) := Lib.hid fun e => by
        subst e
        cases hr : runR d t (listAt ls k) with
        | none =>
          rw [allS_none hr] at hxb
          injection hxb with _ h2
          cases h2
        | some y =>
          rw [allS_some hr] at hxb
          injection hxb with h1 _
          subst h1
          exact ⟨runLs_next hlt HRUN.out hr, runR_ok HT.out hr⟩
      go_upto_region 5 with fail
      refine wp_region_noPanic ?_
      refine wp_region_held_drew (S := fun W => (∀ o, W.cell? ⟨w.heap.size, o, none⟩ = (planC P0 P1 P2 P3 d.n0 k0 d.n1 k1 d.n2 k2 d.n3 k3 d.l d.p d.t)[o]?) ∧ (∀ o, W.cell? ⟨g, o, none⟩ = (stC C0 C1 C2 C3 t.pods.length f0 t.mnts.length f1 t.devs.length f2 t.lks.length f3 t.ph t.co t.ck t.bo t.ba t.lb t.gd t.pr)[o]?) ∧ W.cell? ⟨bl, off + k, none⟩ = some (.slice AL (listAt ls k).length cl)) (by kernel_rfl) ⟨XP.drew.C, fun o => cell_of_row _ _ o _ _ _ HB, q0⟩ (fun _ => ?_)
      replace q0 : wr.drew.cell? ⟨bl, off + k, none⟩ = some (.slice AL (listAt ls k).length cl) := q0
      rw [← heap_drew wr] at HZ HB
      replace XP := XP.drew
      replace OT := OT.below (Below.refl _ _).drew
      replace K := K.drew
      generalize wr.drew = v0 at XP HZ HB q0 OT K ⊢
      refine wpAnyH_take (i := 2) (v := ?_) rfl (by kernel_rfl) (by kernel_rfl) (by kernel_rfl) (fun _ _ _ h => h) (Or.inl ⟨by rfl, ?_⟩) ⟨XP.C, fun o => cell_of_row _ _ o _ _ _ HB, q0⟩ ?_
      rotate_left 1
      · intro w hSw
        obtain ⟨hs1, hs2, hs3⟩ := hSw
        go_simp
        try with_reducible rfl
      change wpAnyH _ _ _ _ _ _ _ (Act.put _ (some 21) _) _
      dsimp only [Act.put]
      refine wpAnyH_take (i := 3) (v := ?_) rfl (by kernel_rfl) (by kernel_rfl) (by kernel_rfl) (fun _ _ _ h => h) (Or.inl ⟨by rfl, ?_⟩) ⟨XP.C, fun o => cell_of_row _ _ o _ _ _ HB, q0⟩ ?_
      rotate_left 1
      · intro w hSw
        obtain ⟨hs1, hs2, hs3⟩ := hSw
        go_simp
        try with_reducible rfl
      change wpAnyH _ _ _ _ _ _ _ (Act.put _ (some 22) _) _
      dsimp only [Act.put]
      refine wpAnyH_take (i := 4) (v := ?_) rfl (by kernel_rfl) (by kernel_rfl) (by kernel_rfl) (fun _ _ _ h => h) (Or.inl ⟨by rfl, ?_⟩) ⟨XP.C, fun o => cell_of_row _ _ o _ _ _ HB, q0⟩ ?_
      rotate_left 1
      · intro w hSw
        obtain ⟨hs1, hs2, hs3⟩ := hSw
        go_simp
        try with_reducible rfl
      change wpAnyH _ _ _ _ _ _ _ (Act.put _ (some 23) _) _
      dsimp only [Act.put]
      refine wpAnyH_take (i := 5) (v := ?_) rfl (by kernel_rfl) (by kernel_rfl) (by kernel_rfl) (fun _ _ _ h => h) (Or.inl ⟨by rfl, ?_⟩) ⟨XP.C, fun o => cell_of_row _ _ o _ _ _ HB, q0⟩ ?_
      rotate_left 1
      · intro w hSw
        obtain ⟨hs1, hs2, hs3⟩ := hSw
        go_simp
        try with_reducible rfl
      change wpAnyH _ _ _ _ _ _ _ (Act.put _ (some 24) _) _
      dsimp only [Act.put]
      refine wpAnyH_take (i := 0) (v := ?_) rfl (by kernel_rfl) (by kernel_rfl) (by kernel_rfl) (fun _ _ _ h => h) (Or.inl ⟨by rfl, ?_⟩) ⟨XP.C, fun o => cell_of_row _ _ o _ _ _ HB, q0⟩ ?_
      rotate_left 1
      · intro w hSw
        obtain ⟨hs1, hs2, hs3⟩ := hSw
        go_simp
        try with_reducible rfl
      change wpAnyH _ _ _ _ _ _ _ (Act.put _ (some 19) _) _
      dsimp only [Act.put]
      refine wpAnyH_take (i := 1) (v := ?_) rfl (by kernel_rfl) (by kernel_rfl) (by kernel_rfl) (fun _ _ _ h => h) (Or.inl ⟨by rfl, ?_⟩) ⟨XP.C, fun o => cell_of_row _ _ o _ _ _ HB, q0⟩ ?_
      rotate_left 1
      · intro w hSw
        obtain ⟨hs1, hs2, hs3⟩ := hSw
        go_simp
        try with_reducible rfl
      change wpAnyH _ _ _ _ _ _ _ (Act.put _ (some 20) _) _
      dsimp only [Act.put]
      refine wpAnyH_ready (rs := [6, 10]) (by kernel_rfl) (by simp) ?_
      refine AllReadyH.cons rfl (fun K' hK => ?_) ?_
      · skip
        go_simp
        go_at_call 70
        have hall := l6All_any _ _ (.slice AL (listAt ls k).length cl) d t (listAt ls k) v0 ((HP.out.below K (Nat.le_refl _)).more K.size) (OT.isR (fits_ok HT.out)) ((HRT.out.below K (Nat.le_refl _)).more K.size) HT.out
        rw [hxb] at hall
        refine hall.mono ?_
        clear hall
        rintro e v1 ⟨vx, rfl, OX, hb⟩
        replace OX := OX.base K.size
        obtain ⟨y0, y1, y2, y3, rfl, -⟩ := OX.it
        obtain ⟨⟨D0, m0, rfl⟩, ⟨D1, m1, rfl⟩, ⟨D2, m2, rfl⟩, ⟨D3, m3, rfl⟩⟩ := OX.shapes
        replace q0 := (hb.cell (p := ⟨bl, off + k, none⟩) (Nat.lt_of_lt_of_le hql K.size)).trans q0
        try replace H8 := (hb.block _ (Array.getElem?_eq_some_iff.1 H8).1).trans H8
        replace K := K.trans (hb.mono K.size)
        replace XP := XP.step hb
        replace HZ := (hb.block _ (Array.getElem?_eq_some_iff.1 HZ).1).trans HZ
        replace HB := (hb.block _ (Array.getElem?_eq_some_iff.1 HB).1).trans HB
        replace OT := OT.below hb
        clear hb
        go_wp2_with fail
        refine hK.out _ _ ⟨XP.C, fun o => cell_of_row _ _ o _ _ _ HB, q0⟩ (fun _ => ?_)
        clear hK K'
        try (change wpAnyH _ _ _ _ _ _ _ (Act.put _ (some 25) _) _; dsimp only [Act.put])
        refine wpAnyH_take (i := 7) (v := ?_) rfl (by kernel_rfl) (by kernel_rfl) (by kernel_rfl) (fun _ _ _ h => h) (Or.inl ⟨by rfl, ?_⟩) ⟨XP.C, fun o => cell_of_row _ _ o _ _ _ HB, q0⟩ ?_
        rotate_left 1
        · intro w hSw
          obtain ⟨hs1, hs2, hs3⟩ := hSw
          go_simp
          try with_reducible rfl
        change wpAnyH _ _ _ _ _ _ _ (Act.put _ (some 18) _) _
        dsimp only [Act.put]
        refine wpAnyH_take (i := 8) (v := ?_) rfl (by kernel_rfl) (by kernel_rfl) (by kernel_rfl) (fun _ _ _ h => h) (Or.inl ⟨by rfl, ?_⟩) ⟨XP.C, fun o => cell_of_row _ _ o _ _ _ HB, q0⟩ ?_
        rotate_left 1
        · intro w hSw
          obtain ⟨hs1, hs2, hs3⟩ := hSw
          go_simp
          try with_reducible rfl
        change wpAnyH _ _ _ _ _ _ _ (Act.put _ (some 26) _) _
        dsimp only [Act.put]
        refine wpAnyH_take (i := 9) (v := ?_) rfl (by kernel_rfl) (by kernel_rfl) (by kernel_rfl) (fun _ _ _ h => h) (Or.inl ⟨by rfl, ?_⟩) ⟨XP.C, fun o => cell_of_row _ _ o _ _ _ HB, q0⟩ ?_
        rotate_left 1
        · intro w hSw
          obtain ⟨hs1, hs2, hs3⟩ := hSw
          go_simp
          try with_reducible rfl
        change wpAnyH _ _ _ _ _ _ _ (Act.put _ (some 27) _) _
        dsimp only [Act.put]
        refine wpAnyH_ready (rs := [10]) (by kernel_rfl) (by simp) ?_
        refine AllReadyH.cons rfl (fun K' hK => ?_) AllReadyH.nil
        go_simp
        have H8 := heap_alloc_new v1 (.cells (stC none none none none 0 0 0 0 0 0 0 0 0 false 0 0 0 0 0 0) 38)
        have hb := (Below.refl v1.heap.size v1).alloc (Nat.le_refl _) (.cells (stC none none none none 0 0 0 0 0 0 0 0 0 false 0 0 0 0 0 0) 38)
        have h8g : g < v1.heap.size := (Array.getElem?_eq_some_iff.1 HB).1
        replace q0 := (hb.cell (p := ⟨bl, off + k, none⟩) (Nat.lt_of_lt_of_le hql K.size)).trans q0
        try replace OX := OX.below hb
        replace K := K.trans (hb.mono K.size)
        replace XP := XP.step hb
        replace HZ := (hb.block _ (Array.getElem?_eq_some_iff.1 HZ).1).trans HZ
        replace HB := (hb.block _ (Array.getElem?_eq_some_iff.1 HB).1).trans HB
        replace OT := OT.below hb
        clear hb
        obtain ⟨v2, hwv⟩ : ∃ W, v1.alloc (.cells (stC none none none none 0 0 0 0 0 0 0 0 0 false 0 0 0 0 0 0) 38) = W := ⟨_, rfl⟩
        rw [hwv] at H8 q0 K XP HZ HB OT ⊢
        try rw [hwv] at OX
        clear hwv
        obtain ⟨R8, hR8⟩ : ∃ R, v1.heap.size = R := ⟨_, rfl⟩
        rw [hR8] at H8 h8g ⊢
        clear hR8
        refine hK.out _ _ ⟨XP.C, fun o => cell_of_row _ _ o _ _ _ HB, q0⟩ (fun _ => ?_)
        clear hK K'
        try (change wpAnyH _ _ _ _ _ _ _ (Act.put _ (some 8) _) _; dsimp only [Act.put])
        refine wpAnyH_ready (rs := [11]) (by kernel_rfl) (by simp) ?_
        refine AllReadyH.cons rfl (fun K' hK => ?_) AllReadyH.nil
        rw [if_pos (by rfl)]
        refine wp_store_row 38 (.tmp 8) (.tmp 26) rfl R8 (stC D0 D1 D2 D3 x.pods.length m0 x.mnts.length m1 x.devs.length m2 x.lks.length m3 x.ph x.co x.ck x.bo x.ba x.lb x.gd x.pr) rfl rfl 38 _ H8 HI.out rfl (by simp [Value.oneCell']) ?_
        have hR0 : w.heap.size < R8 := by omega
        replace q0 := ((keepsRow_ v2 R8 (stC D0 D1 D2 D3 x.pods.length m0 x.mnts.length m1 x.devs.length m2 x.lks.length m3 x.ph x.co x.ck x.bo x.ba x.lb x.gd x.pr)).cell (p := ⟨bl, off + k, none⟩) (Nat.lt_of_lt_of_le hql K.size) (by show ¬ bl = R8; omega)).trans q0
        have kk := keepsRow_ v2 (R8) (stC D0 D1 D2 D3 x.pods.length m0 x.mnts.length m1 x.devs.length m2 x.lks.length m3 x.ph x.co x.ck x.bo x.ba x.lb x.gd x.pr)
        replace K := belowRow_ K (B := R8) (by omega) (stC D0 D1 D2 D3 x.pods.length m0 x.mnts.length m1 x.devs.length m2 x.lks.length m3 x.ph x.co x.ck x.bo x.ba x.lb x.gd x.pr)
        replace XP := XP.keeps kk (by rintro b rfl; omega) (by show ¬ w.heap.size = R8; omega)
        replace HZ := (setRow_other _ (R8) (w.heap.size + 1) (stC D0 D1 D2 D3 x.pods.length m0 x.mnts.length m1 x.devs.length m2 x.lks.length m3 x.ph x.co x.ck x.bo x.ba x.lb x.gd x.pr) (by omega)).trans HZ
        replace HB := (setRow_other _ (R8) (g) (stC D0 D1 D2 D3 x.pods.length m0 x.mnts.length m1 x.devs.length m2 x.lks.length m3 x.ph x.co x.ck x.bo x.ba x.lb x.gd x.pr) (by omega)).trans HB
        replace OT := OT.keepsT kk H8 (by decide)
        replace OX := OX.keepsT kk H8 (by decide)
        replace H8 := setRow_heap _ _ _ (stC D0 D1 D2 D3 x.pods.length m0 x.mnts.length m1 x.devs.length m2 x.lks.length m3 x.ph x.co x.ck x.bo x.ba x.lb x.gd x.pr) _ _ H8
        clear kk
        generalize v2.setRow R8 (stC D0 D1 D2 D3 x.pods.length m0 x.mnts.length m1 x.devs.length m2 x.lks.length m3 x.ph x.co x.ck x.bo x.ba x.lb x.gd x.pr) = v3 at q0 H8 OX K XP HZ HB OT ⊢
        refine hK.out _ _ ⟨XP.C, fun o => cell_of_row _ _ o _ _ _ HB, q0⟩ (fun _ => ?_)
        clear hK K'
        try (change wpAnyH _ _ _ _ _ _ _ (Act.put _ none _) _; dsimp only [Act.put])
        refine wpAnyH_ready (rs := [12]) (by kernel_rfl) (by simp) ?_
        refine AllReadyH.cons rfl (fun K' hK => ?_) AllReadyH.nil
        go_simp
        refine hK.out _ _ ⟨XP.C, fun o => cell_of_row _ _ o _ _ _ HB, q0⟩ (fun _ => ?_)
        clear hK K'
        try (change wpAnyH _ _ _ _ _ _ _ (Act.put _ (some 9) _) _; dsimp only [Act.put])
        refine wpAnyH_done (by kernel_rfl) ?_ _
        refine NoPanic.normal ?_
        cases xb
        · go_wp2_with (
            (with_reducible refine store_state (x := 4) (y := 30) (g := w.heap.size + 1) (cs := stC none none none none 0 0 0 0 0 0 0 0 0 false 0 0 0 0 0 0) ?_ ?_ HZ ?_ ?_ ?_ ?_)
            · rfl
            · rfl
            · exact HI.out
            · rfl
            · simp [Value.oneCell'])
          rw [show ans = (zeroS, false) from by first | exact HNO.out rfl | exact HNO.out trivial]
          exact bodyPost_ret (v := .tuple #[.agg (stC none none none none 0 0 0 0 0 0 0 0 0 false 0 0 0 0 0 0), .bool false]) (results_two_row Tryz.results92 _ _ _ _ _ _ _ _ rfl rfl (setRow_heap _ _ _ _ _ _ HZ) Tryz.underlying38 rfl HI.out) rfl ⟨_, rfl, OwnSt.zero _ _, belowRow_ K (by omega) _⟩
        · go_wp2_with (first
            | ((with_reducible refine store_state (x := 6) (y := 31) (g := g) (cs := stC D0 D1 D2 D3 x.pods.length m0 x.mnts.length m1 x.devs.length m2 x.lks.length m3 x.ph x.co x.ck x.bo x.ba x.lb x.gd x.pr) ?_ ?_ HB ?_ ?_ ?_ ?_)
               · rfl
               · rfl
               · exact HI.out
               · rfl
               · simp [Value.oneCell'])
            | ((with_reducible refine load_state (x := 8) (g := R8) (cs := stC D0 D1 D2 D3 x.pods.length m0 x.mnts.length m1 x.devs.length m2 x.lks.length m3 x.ph x.co x.ck x.bo x.ba x.lb x.gd x.pr) ?_ H8 ?_ ?_)
               · rfl
               · exact HI.out))
          obtain ⟨hy1, hy2⟩ : runLs d s0 (ls.take (k + 1)) = some x ∧ StOk d x := by first | exact HYES.out rfl | exact HYES.out trivial
          have kk := keepsRow_ v3 g (stC D0 D1 D2 D3 x.pods.length m0 x.mnts.length m1 x.devs.length m2 x.lks.length m3 x.ph x.co x.ck x.bo x.ba x.lb x.gd x.pr)
          exact ⟨⟨k + 1, x, D0, D1, D2, D3, m0, m1, m2, m3, by omega, by go_num, hy1, hy2, belowRow_ K (by omega) _, XP.keeps kk (by rintro b rfl; omega) (by show ¬ w.heap.size = g; omega), (setRow_other _ _ _ _ (by omega)).trans HZ, setRow_heap _ _ _ _ _ _ HB, OX.keepsT kk HB (by decide)⟩, by simp [intOf]; omega⟩
      refine AllReadyH.cons rfl (fun K' hK => ?_) AllReadyH.nil
      go_simp
      have H8 := heap_alloc_new v0 (.cells (stC none none none none 0 0 0 0 0 0 0 0 0 false 0 0 0 0 0 0) 38)
      have hb := (Below.refl v0.heap.size v0).alloc (Nat.le_refl _) (.cells (stC none none none none 0 0 0 0 0 0 0 0 0 false 0 0 0 0 0 0) 38)
      have h8g : g < v0.heap.size := (Array.getElem?_eq_some_iff.1 HB).1
      replace q0 := (hb.cell (p := ⟨bl, off + k, none⟩) (Nat.lt_of_lt_of_le hql K.size)).trans q0
      try replace OX := OX.below hb
      replace K := K.trans (hb.mono K.size)
      replace XP := XP.step hb
      replace HZ := (hb.block _ (Array.getElem?_eq_some_iff.1 HZ).1).trans HZ
      replace HB := (hb.block _ (Array.getElem?_eq_some_iff.1 HB).1).trans HB
      replace OT := OT.below hb
      clear hb
      obtain ⟨v1, hwv⟩ : ∃ W, v0.alloc (.cells (stC none none none none 0 0 0 0 0 0 0 0 0 false 0 0 0 0 0 0) 38) = W := ⟨_, rfl⟩
      rw [hwv] at H8 q0 K XP HZ HB OT ⊢
      try rw [hwv] at OX
      clear hwv
      obtain ⟨R8, hR8⟩ : ∃ R, v0.heap.size = R := ⟨_, rfl⟩
      rw [hR8] at H8 h8g ⊢
      clear hR8
      refine hK.out _ _ ⟨XP.C, fun o => cell_of_row _ _ o _ _ _ HB, q0⟩ (fun _ => ?_)
      clear hK K'
      try (change wpAnyH _ _ _ _ _ _ _ (Act.put _ (some 8) _) _; dsimp only [Act.put])
      refine wpAnyH_ready (rs := [6]) (by kernel_rfl) (by simp) ?_
      refine AllReadyH.cons rfl (fun K' hK => ?_) AllReadyH.nil
      go_simp
      go_at_call 70
      have hall := l6All_any _ _ (.slice AL (listAt ls k).length cl) d t (listAt ls k) v1 ((HP.out.below K (Nat.le_refl _)).more K.size) (OT.isR (fits_ok HT.out)) ((HRT.out.below K (Nat.le_refl _)).more K.size) HT.out
      rw [hxb] at hall
      refine hall.mono ?_
      clear hall
      rintro e v2 ⟨vx, rfl, OX, hb⟩
      replace OX := OX.base K.size
      obtain ⟨y0, y1, y2, y3, rfl, -⟩ := OX.it
      obtain ⟨⟨D0, m0, rfl⟩, ⟨D1, m1, rfl⟩, ⟨D2, m2, rfl⟩, ⟨D3, m3, rfl⟩⟩ := OX.shapes
      replace q0 := (hb.cell (p := ⟨bl, off + k, none⟩) (Nat.lt_of_lt_of_le hql K.size)).trans q0
      try replace H8 := (hb.block _ (Array.getElem?_eq_some_iff.1 H8).1).trans H8
      replace K := K.trans (hb.mono K.size)
      replace XP := XP.step hb
      replace HZ := (hb.block _ (Array.getElem?_eq_some_iff.1 HZ).1).trans HZ
      replace HB := (hb.block _ (Array.getElem?_eq_some_iff.1 HB).1).trans HB
      replace OT := OT.below hb
      clear hb
      go_wp2_with fail
      refine hK.out _ _ ⟨XP.C, fun o => cell_of_row _ _ o _ _ _ HB, q0⟩ (fun _ => ?_)
      clear hK K'
      try (change wpAnyH _ _ _ _ _ _ _ (Act.put _ (some 25) _) _; dsimp only [Act.put])
      refine wpAnyH_take (i := 7) (v := ?_) rfl (by kernel_rfl) (by kernel_rfl) (by kernel_rfl) (fun _ _ _ h => h) (Or.inl ⟨by rfl, ?_⟩) ⟨XP.C, fun o => cell_of_row _ _ o _ _ _ HB, q0⟩ ?_
      rotate_left 1
      · intro w hSw
        obtain ⟨hs1, hs2, hs3⟩ := hSw
        go_simp
        try with_reducible rfl
      change wpAnyH _ _ _ _ _ _ _ (Act.put _ (some 18) _) _
      dsimp only [Act.put]
      refine wpAnyH_take (i := 8) (v := ?_) rfl (by kernel_rfl) (by kernel_rfl) (by kernel_rfl) (fun _ _ _ h => h) (Or.inl ⟨by rfl, ?_⟩) ⟨XP.C, fun o => cell_of_row _ _ o _ _ _ HB, q0⟩ ?_
      rotate_left 1
      · intro w hSw
        obtain ⟨hs1, hs2, hs3⟩ := hSw
        go_simp
        try with_reducible rfl
      change wpAnyH _ _ _ _ _ _ _ (Act.put _ (some 26) _) _
      dsimp only [Act.put]
      refine wpAnyH_take (i := 9) (v := ?_) rfl (by kernel_rfl) (by kernel_rfl) (by kernel_rfl) (fun _ _ _ h => h) (Or.inl ⟨by rfl, ?_⟩) ⟨XP.C, fun o => cell_of_row _ _ o _ _ _ HB, q0⟩ ?_
      rotate_left 1
      · intro w hSw
        obtain ⟨hs1, hs2, hs3⟩ := hSw
        go_simp
        try with_reducible rfl
      change wpAnyH _ _ _ _ _ _ _ (Act.put _ (some 27) _) _
      dsimp only [Act.put]
      refine wpAnyH_ready (rs := [11]) (by kernel_rfl) (by simp) ?_
      refine AllReadyH.cons rfl (fun K' hK => ?_) AllReadyH.nil
      rw [if_pos (by rfl)]
      refine wp_store_row 38 (.tmp 8) (.tmp 26) rfl R8 (stC D0 D1 D2 D3 x.pods.length m0 x.mnts.length m1 x.devs.length m2 x.lks.length m3 x.ph x.co x.ck x.bo x.ba x.lb x.gd x.pr) rfl rfl 38 _ H8 HI.out rfl (by simp [Value.oneCell']) ?_
      have hR0 : w.heap.size < R8 := by omega
      replace q0 := ((keepsRow_ v2 R8 (stC D0 D1 D2 D3 x.pods.length m0 x.mnts.length m1 x.devs.length m2 x.lks.length m3 x.ph x.co x.ck x.bo x.ba x.lb x.gd x.pr)).cell (p := ⟨bl, off + k, none⟩) (Nat.lt_of_lt_of_le hql K.size) (by show ¬ bl = R8; omega)).trans q0
      have kk := keepsRow_ v2 (R8) (stC D0 D1 D2 D3 x.pods.length m0 x.mnts.length m1 x.devs.length m2 x.lks.length m3 x.ph x.co x.ck x.bo x.ba x.lb x.gd x.pr)
      replace K := belowRow_ K (B := R8) (by omega) (stC D0 D1 D2 D3 x.pods.length m0 x.mnts.length m1 x.devs.length m2 x.lks.length m3 x.ph x.co x.ck x.bo x.ba x.lb x.gd x.pr)
      replace XP := XP.keeps kk (by rintro b rfl; omega) (by show ¬ w.heap.size = R8; omega)
      replace HZ := (setRow_other _ (R8) (w.heap.size + 1) (stC D0 D1 D2 D3 x.pods.length m0 x.mnts.length m1 x.devs.length m2 x.lks.length m3 x.ph x.co x.ck x.bo x.ba x.lb x.gd x.pr) (by omega)).trans HZ
      replace HB := (setRow_other _ (R8) (g) (stC D0 D1 D2 D3 x.pods.length m0 x.mnts.length m1 x.devs.length m2 x.lks.length m3 x.ph x.co x.ck x.bo x.ba x.lb x.gd x.pr) (by omega)).trans HB
      replace OT := OT.keepsT kk H8 (by decide)
      replace OX := OX.keepsT kk H8 (by decide)
      replace H8 := setRow_heap _ _ _ (stC D0 D1 D2 D3 x.pods.length m0 x.mnts.length m1 x.devs.length m2 x.lks.length m3 x.ph x.co x.ck x.bo x.ba x.lb x.gd x.pr) _ _ H8
      clear kk
      generalize v2.setRow R8 (stC D0 D1 D2 D3 x.pods.length m0 x.mnts.length m1 x.devs.length m2 x.lks.length m3 x.ph x.co x.ck x.bo x.ba x.lb x.gd x.pr) = v3 at q0 H8 OX K XP HZ HB OT ⊢
      refine hK.out _ _ ⟨XP.C, fun o => cell_of_row _ _ o _ _ _ HB, q0⟩ (fun _ => ?_)
      clear hK K'
      try (change wpAnyH _ _ _ _ _ _ _ (Act.put _ none _) _; dsimp only [Act.put])
      refine wpAnyH_ready (rs := [12]) (by kernel_rfl) (by simp) ?_
      refine AllReadyH.cons rfl (fun K' hK => ?_) AllReadyH.nil
      go_simp
      refine hK.out _ _ ⟨XP.C, fun o => cell_of_row _ _ o _ _ _ HB, q0⟩ (fun _ => ?_)
      clear hK K'
      try (change wpAnyH _ _ _ _ _ _ _ (Act.put _ (some 9) _) _; dsimp only [Act.put])
      refine wpAnyH_done (by kernel_rfl) ?_ _
      refine NoPanic.normal ?_
      cases xb
      · go_wp2_with (
          (with_reducible refine store_state (x := 4) (y := 30) (g := w.heap.size + 1) (cs := stC none none none none 0 0 0 0 0 0 0 0 0 false 0 0 0 0 0 0) ?_ ?_ HZ ?_ ?_ ?_ ?_)
          · rfl
          · rfl
          · exact HI.out
          · rfl
          · simp [Value.oneCell'])
        rw [show ans = (zeroS, false) from by first | exact HNO.out rfl | exact HNO.out trivial]
        exact bodyPost_ret (v := .tuple #[.agg (stC none none none none 0 0 0 0 0 0 0 0 0 false 0 0 0 0 0 0), .bool false]) (results_two_row Tryz.results92 _ _ _ _ _ _ _ _ rfl rfl (setRow_heap _ _ _ _ _ _ HZ) Tryz.underlying38 rfl HI.out) rfl ⟨_, rfl, OwnSt.zero _ _, belowRow_ K (by omega) _⟩
      · go_wp2_with (first
          | ((with_reducible refine store_state (x := 6) (y := 31) (g := g) (cs := stC D0 D1 D2 D3 x.pods.length m0 x.mnts.length m1 x.devs.length m2 x.lks.length m3 x.ph x.co x.ck x.bo x.ba x.lb x.gd x.pr) ?_ ?_ HB ?_ ?_ ?_ ?_)
             · rfl
             · rfl
             · exact HI.out
             · rfl
             · simp [Value.oneCell'])
          | ((with_reducible refine load_state (x := 8) (g := R8) (cs := stC D0 D1 D2 D3 x.pods.length m0 x.mnts.length m1 x.devs.length m2 x.lks.length m3 x.ph x.co x.ck x.bo x.ba x.lb x.gd x.pr) ?_ H8 ?_ ?_)
             · rfl
             · exact HI.out))
        obtain ⟨hy1, hy2⟩ : runLs d s0 (ls.take (k + 1)) = some x ∧ StOk d x := by first | exact HYES.out rfl | exact HYES.out trivial
        have kk := keepsRow_ v3 g (stC D0 D1 D2 D3 x.pods.length m0 x.mnts.length m1 x.devs.length m2 x.lks.length m3 x.ph x.co x.ck x.bo x.ba x.lb x.gd x.pr)
        exact ⟨⟨k + 1, x, D0, D1, D2, D3, m0, m1, m2, m3, by omega, by go_num, hy1, hy2, belowRow_ K (by omega) _, XP.keeps kk (by rintro b rfl; omega) (by show ¬ w.heap.size = g; omega), (setRow_other _ _ _ _ (by omega)).trans HZ, setRow_heap _ _ _ _ _ _ HB, OX.keepsT kk HB (by decide)⟩, by simp [intOf]; omega⟩
    · have hkl : ls.length = k := by omega
      have hsome : ans = (t, true) := by
        rw [← HANS.out]
        unfold replayD
        have := HRUN.out
        rw [← hkl, List.take_length] at this
        rw [HS0.out, this]
      go_wp2_with (first
        | ((with_reducible refine store_state (x := 4) (y := 32) (g := w.heap.size + 1) (cs := stC C0 C1 C2 C3 t.pods.length f0 t.mnts.length f1 t.devs.length f2 t.lks.length f3 t.ph t.co t.ck t.bo t.ba t.lb t.gd t.pr) ?_ ?_ HZ ?_ ?_ ?_ ?_)
           · rfl
           · rfl
           · exact HI.out
           · rfl
           · simp [Value.oneCell'])
        | ((with_reducible refine load_state (x := 6) (g := g) (cs := stC C0 C1 C2 C3 t.pods.length f0 t.mnts.length f1 t.devs.length f2 t.lks.length f3 t.ph t.co t.ck t.bo t.ba t.lb t.gd t.pr) ?_ HB ?_ ?_)
           · rfl
           · exact HI.out))
      rw [hsome]
      have kk := keepsRow_ wr (w.heap.size + 1) (stC C0 C1 C2 C3 t.pods.length f0 t.mnts.length f1 t.devs.length f2 t.lks.length f3 t.ph t.co t.ck t.bo t.ba t.lb t.gd t.pr)
      exact bodyPost_ret (v := .tuple #[.agg (stC C0 C1 C2 C3 t.pods.length f0 t.mnts.length f1 t.devs.length f2 t.lks.length f3 t.ph t.co t.ck t.bo t.ba t.lb t.gd t.pr), .bool true]) (results_two_row Tryz.results92 _ _ _ _ _ _ _ _ rfl rfl (setRow_heap _ _ _ _ _ _ HZ) Tryz.underlying38 rfl HI.out) rfl ⟨_, rfl, OT.keepsT kk HZ (by decide), belowRow_ K (by omega) _⟩
end Go.Proofs.YtdkmhaghnfhajaaGreat
/- Bc -/
set_option linter.unusedVariables false
namespace Go.Proofs.YtdkmhaghnfhajaaGreat
open Go.RowKit

/-- What l3Get answers of the bytes L from place i on. -/
def GotNum (L : List Nat) (i : Nat) (w : World) (e : Ending) (w' : World) : Prop :=
  w = w' ∧ ((∃ n p : Nat, e = .returned (.tuple #[.int .i64 n, .int .i64 p]) ∧ p ≤ L.length ∧ num (128 ^ 4) (L.drop i) = some (n, L.drop p)) ∨ (e = .returned (.tuple #[.int .i64 (-1), .int .i64 0]) ∧ num (128 ^ 4) (L.drop i) = none))

set_option maxRecDepth 100000 in
set_option maxHeartbeats 2000000 in
theorem get_any (v : Value) (L : List Nat) (i : Nat) (w : World) (h : Bt w w.heap.size v L) (hi : i ≤ L.length) :
    Calls Tryz.prog 115 #[v, .int .i64 i] w (GotNum L i w) := by
  have H := Lib.hid h
  obtain ⟨⟨A, c, rfl, hcap, -⟩, hl, hs⟩ := h
  have HS := Lib.hid hs
  have hl' : L.length ≤ 2 ^ 63 - 1 := by unfold maxLen at hl; omega
  have HM := Lib.hid (show SmallB (L.drop i) from hs.drop i)
  clear hs hl
  generalize hn : L.length = n at *
  have HN := Lib.hid hn
  clear hn
  go_enter Tryz.func115, Tryz.ntmps115
  go_wp2
  go_loop [6, 7] (fun s6 kk => ∃ k : Nat, k ≤ 4 ∧ i + k ≤ n ∧ kk = .int .i64 k ∧ s6 = .int .i64 (lowN k (L.drop i) : Nat) ∧ (∀ j, j < k → 128 ≤ (L.drop i).getD j 0)) (fun _ kk => 4 - (intOf kk).toNat)
  case atStart => exact ⟨0, by omega, by omega, rfl, rfl, fun j hj => absurd hj (by omega)⟩
  case round =>
    obtain ⟨k, hk4, hkn, rfl, rfl, hall⟩ := hrel
    have HA := Lib.hid hall
    clear hall
    have hlo := lowN_lt k (L.drop i)
    have hlo2 : lowN k (L.drop i) < 268435456 := Nat.lt_of_lt_of_le hlo (Nat.pow_le_pow_right (n := 128) (j := 4) (by omega) (by omega))
    clear hlo
    by_cases h4 : k < 4
    · by_cases hin : i + k < n
      · obtain ⟨b, off, rfl, hb, q⟩ := H.out.cell (k := i + k) (by rw [HN.out]; exact hin)
        have zlt := HS.out.getD (i + k)
        have hsucc := Lib.hid (lowN_succ k (L.drop i))
        rw [← getD_drop] at q zlt
        generalize hz : (L.drop i).getD k 0 = z at *
        have HZ := Lib.hid hz
        clear hz
        have hkl : k < (L.drop i).length := by rw [List.length_drop, HN.out]; omega
        by_cases h128 : z < 128
        · have hnum : Hid ((0 < k → 0 < z) → num (128 ^ 4) (L.drop i) = some (lowN (k + 1) (L.drop i), L.drop (i + (k + 1)))) := Lib.hid (fun (hz : 0 < k → 0 < z) => by rw [← List.drop_drop]; exact num_at (K := 4) h4 hkl HA.out (by rw [HZ.out]; exact h128) HM.out (by rw [HZ.out]; omega))
          have hbad := Lib.hid (fun (h0 : 0 < k) (hz : z = 0) => num_bad (m := 128 ^ 4) hkl HA.out (by rw [HZ.out]; exact h128) HM.out (by rw [HZ.out]; omega))
          clear hkl
          rcases (by omega : k = 0 ∨ k = 1 ∨ k = 2 ∨ k = 3) with rfl | rfl | rfl | rfl
          · simp only [Nat.add_zero] at q
            go_wp2
            go_ret2
            exact ⟨rfl, .inl ⟨lowN (0 + 1) (L.drop i), i + (0 + 1), ret_two (int_eq (by rw [hsucc.out]; simp)) (int_eq (by omega)), by rw [HN.out]; omega, hnum.out (by omega)⟩⟩
          · by_cases hz : z = 0
            · subst hz
              go_wp2
              go_ret2
              exact ⟨rfl, .inr ⟨rfl, hbad.out (by omega) (by first | trivial | rfl)⟩⟩
            · have hz1 : ((z : Int) == 0) = false := by simp; omega
              have hz2 : ¬ (z : Int) = 0 := by omega
              go_wp2
              go_ret2
              exact ⟨rfl, .inl ⟨lowN (1 + 1) (L.drop i), i + (1 + 1), ret_two (int_eq (by rw [hsucc.out]; simp)) (int_eq (by omega)), by rw [HN.out]; omega, hnum.out (fun _ => by omega)⟩⟩
          · by_cases hz : z = 0
            · subst hz
              go_wp2
              go_ret2
              exact ⟨rfl, .inr ⟨rfl, hbad.out (by omega) (by first | trivial | rfl)⟩⟩
            · have hz1 : ((z : Int) == 0) = false := by simp; omega
              have hz2 : ¬ (z : Int) = 0 := by omega
              go_wp2
              go_ret2
              exact ⟨rfl, .inl ⟨lowN (2 + 1) (L.drop i), i + (2 + 1), ret_two (int_eq (by rw [hsucc.out]; simp)) (int_eq (by omega)), by rw [HN.out]; omega, hnum.out (fun _ => by omega)⟩⟩
          · by_cases hz : z = 0
            · subst hz
              go_wp2
              go_ret2
              exact ⟨rfl, .inr ⟨rfl, hbad.out (by omega) (by first | trivial | rfl)⟩⟩
            · have hz1 : ((z : Int) == 0) = false := by simp; omega
              have hz2 : ¬ (z : Int) = 0 := by omega
              go_wp2
              go_ret2
              exact ⟨rfl, .inl ⟨lowN (3 + 1) (L.drop i), i + (3 + 1), ret_two (int_eq (by rw [hsucc.out]; simp)) (int_eq (by omega)), by rw [HN.out]; omega, hnum.out (fun _ => by omega)⟩⟩
        · rcases (by omega : k = 0 ∨ k = 1 ∨ k = 2 ∨ k = 3) with rfl | rfl | rfl | rfl
          · (try simp only [Nat.add_zero] at q)
            go_wp2
            refine ⟨⟨1, by omega, by omega, by go_num, ?_, ?_⟩, by simp [intOf]⟩
            · refine int_eq ?_
              rw [hsucc.out]
              simp
            · intro j hj
              by_cases h : j < 0
              · exact HA.out j h
              · obtain rfl : j = 0 := by omega
                rw [HZ.out]; omega
          · (try simp only [Nat.add_zero] at q)
            go_wp2
            refine ⟨⟨2, by omega, by omega, by go_num, ?_, ?_⟩, by simp [intOf]⟩
            · refine int_eq ?_
              rw [hsucc.out]
              simp
            · intro j hj
              by_cases h : j < 1
              · exact HA.out j h
              · obtain rfl : j = 1 := by omega
                rw [HZ.out]; omega
          · (try simp only [Nat.add_zero] at q)
            go_wp2
            refine ⟨⟨3, by omega, by omega, by go_num, ?_, ?_⟩, by simp [intOf]⟩
            · refine int_eq ?_
              rw [hsucc.out]
              simp
            · intro j hj
              by_cases h : j < 2
              · exact HA.out j h
              · obtain rfl : j = 2 := by omega
                rw [HZ.out]; omega
          · (try simp only [Nat.add_zero] at q)
            go_wp2
            refine ⟨⟨4, by omega, by omega, by go_num, ?_, ?_⟩, by simp [intOf]⟩
            · refine int_eq ?_
              rw [hsucc.out]
              simp
            · intro j hj
              by_cases h : j < 3
              · exact HA.out j h
              · obtain rfl : j = 3 := by omega
                rw [HZ.out]; omega
      · obtain rfl : i + k = n := by omega
        have hend : num (128 ^ 4) (L.drop i) = none := num_end (by omega) fun j h1 h2 => HA.out j (by have := HN.out; rw [List.length_drop] at h2; omega)
        have HE := Lib.hid hend
        clear hend
        go_wp2
        go_ret2
        exact ⟨rfl, .inr ⟨rfl, HE.out⟩⟩
    · obtain rfl : k = 4 := by omega
      have hend : num (128 ^ 4) (L.drop i) = none := num_end (by omega) fun j h1 h2 => HA.out j (by omega)
      have HE := Lib.hid hend
      clear hend
      go_wp2
      go_ret2
      exact ⟨rfl, .inr ⟨rfl, HE.out⟩⟩
end Go.Proofs.YtdkmhaghnfhajaaGreat
/- Bf -/
set_option linter.unusedVariables false
namespace Go.Proofs.YtdkmhaghnfhajaaGreat
open Go.RowKit

/-- So many numbers ahead, one behind the other. -/
def nums (m : Nat) : Nat → List Nat → Option (List Nat × List Nat)
  | 0, L => some ([], L)
  | k + 1, L => (nums m k L).bind fun p => (num m p.2).map fun q => (p.1 ++ [q.1], q.2)
theorem nums_step {m k n : Nat} {L M R : List Nat} {ns : List Nat} (h : nums m k L = some (ns, M)) (h1 : num m M = some (n, R)) : nums m (k + 1) L = some (ns ++ [n], R) := by
  rw [nums, h]; simp [h1]
theorem nums_stop {m k : Nat} {L M : List Nat} {ns : List Nat} (h : nums m k L = some (ns, M)) (h1 : num m M = none) : nums m (k + 1) L = none := by
  rw [nums, h]; simp [h1]
theorem nums_none {m k j : Nat} {L : List Nat} (h : nums m k L = none) (hj : k ≤ j) : nums m j L = none := by
  induction j with
  | zero => obtain rfl : k = 0 := by omega
            exact h
  | succ j ih =>
    by_cases e : k = j + 1
    · subst e; exact h
    · rw [nums, ih (by omega)]; rfl
theorem nums_len {m k : Nat} {L M : List Nat} {ns : List Nat} (h : nums m k L = some (ns, M)) : ns.length = k := by
  induction k generalizing ns M with
  | zero => cases h; rfl
  | succ k ih =>
    rw [nums] at h
    cases e : nums m k L with
    | none => rw [e] at h; cases h
    | some p =>
      obtain ⟨a, b⟩ := p
      rw [e] at h
      cases e2 : num m b with
      | none => simp [e2] at h
      | some q =>
        simp [e2] at h
        obtain ⟨h1, h2⟩ := h
        subst h1
        simp [ih e]
theorem getRec_nums {m : Nat} (hm : 1000000 < m) (L : List Nat) : getRec L =
    (nums m 3 L).bind fun p => if recOkB ⟨p.1.getD 0 0, p.1.getD 1 0, p.1.getD 2 0⟩ then some (⟨p.1.getD 0 0, p.1.getD 1 0, p.1.getD 2 0⟩, p.2) else none := by
  rw [getRec_num hm]
  simp only [nums]
  cases h1 : num m L with
  | none => simp [h1]
  | some p =>
    cases h2 : num m p.2 with
    | none => simp [h1, h2]
    | some q =>
      cases h3 : num m q.2 with
      | none => simp [h1, h2, h3]
      | some s => simp [h1, h2, h3]
end Go.Proofs.YtdkmhaghnfhajaaGreat
/- Bg -/
set_option linter.unusedVariables false
namespace Go.Proofs.YtdkmhaghnfhajaaGreat
open Go.RowKit

/-- Block g holds N whole numbers, as x tells, and no more; its elements are of type T. -/
structure CellsT (T : TypeId) (w : World) (g N : Nat) (x : Nat → Int) : Prop where
  it : ∃ cur, w.heap[g]? = some (.cells cur T (0, 0)) ∧ cur.size = N ∧ ∀ j, j < N → cur[j]? = some (.int .i64 (x j))
theorem CellsT.lt {T : TypeId} {w : World} {g N : Nat} {x : Nat → Int} (h : CellsT T w g N x) : g < w.heap.size := by
  obtain ⟨cur, hh, _⟩ := h
  exact (Array.getElem?_eq_some_iff.1 hh).1
theorem CellsT.at_ {T : TypeId} {w : World} {g N : Nat} {x : Nat → Int} (h : CellsT T w g N x) {j : Nat} (hj : j < N) : w.cell? ⟨g, j, none⟩ = some (.int .i64 (x j)) ∧ w.frozen? ⟨g, j, none⟩ = false := by
  obtain ⟨cur, hh, _, hc⟩ := h
  exact ⟨(cell_of_row _ _ _ _ _ _ hh).trans (hc j hj), frozen_of_row _ _ _ _ _ hh⟩
theorem CellsT.set {T : TypeId} {w : World} {g N : Nat} {x : Nat → Int} (h : CellsT T w g N x) (i : Nat) (v : Int) : CellsT T (w.setCell ⟨g, i, none⟩ (.int .i64 v)) g N (fun j => if j = i then v else x j) := by
  obtain ⟨cur, hh, hs, hc⟩ := h
  refine ⟨cur.setIfInBounds i (.int .i64 v), heap_setCell_same w g i cur _ _ hh, by simp [hs], fun j hj => ?_⟩
  by_cases e : j = i
  · subst e
    simp [hs, hj]
  · rw [Array.getElem?_setIfInBounds_ne (fun he => e he.symm), hc j hj, if_neg e]
theorem CellsT.congr {T : TypeId} {w : World} {g N : Nat} {x y : Nat → Int} (h : CellsT T w g N x) (e : ∀ j, j < N → x j = y j) : CellsT T w g N y := by
  obtain ⟨cur, hh, hs, hc⟩ := h
  exact ⟨cur, hh, hs, fun j hj => by rw [hc j hj, e j hj]⟩
theorem CellsT.go {T : TypeId} {w w' : World} {g N : Nat} {x : Nat → Int} (h : CellsT T w g N x) (hb : Below w.heap.size w w') : CellsT T w' g N x := by
  have hl := h.lt
  obtain ⟨cur, hh, hs, hc⟩ := h
  exact ⟨cur, (hb.block g hl).trans hh, hs, hc⟩
theorem CellsT.own {T : TypeId} {w : World} {B g n k : Nat} {xs : List Value} (h : ∃ x, CellsT T w g (n * k) x ∧ ∀ j, j < n * k → xs[j]? = some (.int .i64 (x j))) (hl : xs.length = n * k) (hB : B ≤ g) (hn : n ≤ maxLen) :
    w.ownsRow B T k (.slice (some ⟨g, 0, none⟩) n n) n xs := by
  obtain ⟨x, ⟨cur, hh, hs, hc⟩, hx⟩ := h
  refine ⟨hl, .inr ⟨g, n, cur, rfl, hB, hh, Nat.le_refl _, hn, hs, ?_⟩⟩
  rw [List.take_of_length_le (by simp [hs])]
  apply List.ext_getElem?
  intro j
  by_cases hj : j < n * k
  · rw [hx j hj, Array.getElem?_toList, hc j hj]
  · rw [List.getElem?_eq_none (by simp [hs]; omega), List.getElem?_eq_none (by omega)]
theorem CellsT.made {T : TypeId} {w : World} {B g n k : Nat} {z : Array Value} (hk : 0 < k) (hz : z = Array.replicate k (.int .i64 0))
    (h : w.ownsRow B T k (.slice (some ⟨g, 0, none⟩) n n) n (madeCells z (n * k)).toList) : CellsT T w g (n * k) (fun _ => 0) := by
  rcases h.2 with ⟨h1, _⟩ | ⟨g', cap, cur, h1, _, h2, _, _, h5, h6⟩
  · cases h1
  · injection h1 with h1 _ h3
    injection h1 with h1
    injection h1 with h1 _ _
    subst h1 h3
    refine ⟨cur, h2, h5, fun j hj => ?_⟩
    rw [List.take_of_length_le (by simp [h5])] at h6
    rw [← Array.getElem?_toList, h6, hz]
    simp [madeCells, hj]
    rw [getElem!_pos _ _ (by simp; exact Nat.mod_lt _ hk)]
    simp

/-- What ReadRecs answers of the bytes L. -/
def Read (L : List Nat) (w : World) (e : Ending) (w' : World) : Prop :=
  ∃ v, e = .returned (.tuple #[v, .bool (readN L).isSome]) ∧ OR w' w.heap.size v ((readN L).getD []) ∧ Below w.heap.size w w'
theorem readN_no {L : List Nat} (h : readN L = none) : (readN L).isSome = false ∧ (readN L).getD [] = [] := by rw [h]; exact ⟨rfl, rfl⟩
theorem readN_yes {L : List Nat} {l : List RecD} (h : readN L = some l) : (readN L).isSome = true ∧ (readN L).getD [] = l := by rw [h]; exact ⟨rfl, rfl⟩
theorem Rt.keeps {S : Nat → Prop} {w w' : World} {B : Nat} {v : Value} {l : List RecD} (h : Rt w B v l) (hk : Keeps S w w') (hB : B ≤ w.heap.size) (hS : ∀ b, b < B → ¬ S b) : Rt w' B v l :=
  h.below (hk.below (B := B) hB hS) (Nat.le_refl _)
theorem OR.keeps {S : Nat → Prop} {w w' : World} {B : Nat} {v : Value} {l : List RecD} (h : OR w B v l) (hk : Keeps S w w') (hS : ∀ r, B ≤ r → ¬ S r) : OR w' B v l := by
  obtain ⟨hl, ho⟩ := h
  refine ⟨hl, ho.imp id ?_⟩
  rintro ⟨g, cap, cur, hv, hb', hh, rest⟩
  exact ⟨g, cap, cur, hv, hb', (hk.block g (Array.getElem?_eq_some_iff.1 hh).1 (hS g hb')).trans hh, rest⟩
end Go.Proofs.YtdkmhaghnfhajaaGreat
/- BgS -/
set_option linter.unusedVariables false
namespace Go.Proofs.YtdkmhaghnfhajaaGreat
open Go.RowKit

theorem info_i64B : (Tryz.prog.info? 2).map (fun i => (i.zero, i.size, i.bytes)) = some (some (.int .i64 0), 1, 8) := by kernel_rfl
def toI (ns : List Nat) : List Int := ns.map fun n : Nat => (n : Int)
theorem toI_len (ns : List Nat) : (toI ns).length = ns.length := by simp [toI]
theorem toI_snoc (ns : List Nat) (n : Nat) : toI (ns ++ [n]) = toI ns ++ [(n : Int)] := by simp [toI]
/-- A row of whole numbers of the call's own. -/
def OL (w : World) (B : Nat) (v : Value) (l : List Int) : Prop := w.ownsRow B 2 1 v l.length (l.map (Value.int .i64))
theorem OL.empty {w : World} {B : Nat} (hB : B ≤ w.heap.size) : OL (w.alloc (.cells #[] 2)) B (.slice (some ⟨w.heap.size, 0, none⟩) 0 0) [] := by
  have := World.ownsRow_made (base := w.heap.size) (e := 2) (size := 1) w #[] 0 (by simp) (Nat.zero_le _) rfl
  exact ownsRow_base (by simpa using this) hB
theorem OL.push {w' : World} {B : Nat} {v' : Value} {l : List Int} (a : Int) (h' : w'.ownsRow B 2 1 v' (l.length + 1) (l.map (Value.int .i64) ++ [.int .i64 a])) : OL w' B v' (l ++ [a]) := by
  unfold OL
  rw [List.length_append, List.map_append]
  exact h'
theorem OL.lt {w : World} {B : Nat} {v : Value} {l : List Int} (h : OL w B v l) {r : Nat} (hr : v.ownBlock = some r) : B ≤ r ∧ r < w.heap.size := World.ownsRow.lt h r hr
theorem OR.push {w' : World} {B : Nat} {v' : Value} {l : List RecD} (r : RecD) (h' : w'.ownsRow B 60 3 v' (l.length + 1) (recVs l ++ [.int .i64 r.k, .int .i64 r.a, .int .i64 r.b])) : OR w' B v' (l ++ [r]) := by
  unfold OR
  rw [List.length_append]
  have : recVs (l ++ [r]) = recVs l ++ [.int .i64 r.k, .int .i64 r.a, .int .i64 r.b] := by simp [recVs, flat]
  rw [this]
  exact h'

theorem num_lt4 {M R : List Nat} {x : Nat} (h : num (128 ^ 4) M = some (x, R)) : x < 268435456 := Nat.lt_of_lt_of_eq (num_some.1 h).2 (by decide)

set_option maxRecDepth 100000 in
set_option maxHeartbeats 4000000 in
theorem specReadRecs_any (v : Value) (L : List Nat) (w : World) (h : Bt w w.heap.size v L) :
    Calls Tryz.prog 107 #[v] w (Read L w) := by
  have H := Lib.hid h
  obtain ⟨⟨A, c, rfl, hcap, -⟩, hl, -⟩ := h
  have hl' : L.length ≤ 2 ^ 63 - 1 := by unfold maxLen at hl; omega
  clear hl
  obtain ⟨i0, hi, hz0, hz1, hz2⟩ := info_parts info_rec
  have HI := Lib.hid hi
  have HZ0 := Lib.hid hz0
  have HZ1 := Lib.hid hz1
  have HZ2 := Lib.hid hz2
  clear hi hz0 hz1 hz2
  obtain ⟨i1, hi, hz0, hz1, hz2⟩ := info_parts info_i64B
  have GI := Lib.hid hi
  have GZ0 := Lib.hid hz0
  have GZ1 := Lib.hid hz1
  have GZ2 := Lib.hid hz2
  clear hi hz0 hz1 hz2
  go_enter Tryz.func107, Tryz.ntmps107
  go_wp2_with fail
  have KA := (Below.refl w.heap.size w).alloc (Nat.le_refl _) (.cells #[] 60)
  have OA : OR (w.alloc (.cells #[] 60)) w.heap.size (.slice (some ⟨w.heap.size, 0, none⟩) 0 0) [] := OR.empty (Nat.le_refl _)
  have HA := Lib.hid ((H.out.below KA (Nat.le_refl _)).more KA.size)
  have HKA := Lib.hid KA
  have HOA := Lib.hid OA
  clear KA OA
  refine (get_any _ L 0 _ HA.out (Nat.zero_le _)).mono ?_
  rintro e w1 ⟨rfl, hor⟩
  rw [List.drop_zero] at hor
  rcases hor with ⟨n, p0, rfl, hp0, hnum⟩ | ⟨rfl, hnum⟩
  · have hrd := readN_num (m := 128 ^ 4) (by decide) L
    rw [hnum] at hrd
    have HRD := Lib.hid hrd
    clear hnum hrd
    by_cases h80 : 80 < n
    · have hno : readN L = none := by rw [HRD.out]; simp [h80]
      have HNO := Lib.hid (readN_no hno)
      clear hno
      go_wp2
      go_ret2
      exact ⟨_, ret_two rfl (bool_eq HNO.out.1.symm), by rw [HNO.out.2]; exact HOA.out, HKA.out⟩
    · have hrd : readN L = (getRecs n (L.drop p0)).bind fun q => if q.2 = [] then some q.1 else none := by rw [HRD.out]; simp [h80]
      have HRD := Lib.hid hrd
      clear hrd
      generalize w.alloc (.cells #[] 60) = w1 at HA HKA HOA ⊢
      have hn80 : n ≤ 80 := by omega
      clear h80
      go_wp2_with fail
      go_loopw [5, 6, 7] (fun s5 s6 s7 wr => ∃ (m p : Nat) (done : List RecD), m ≤ n ∧ s5 = .int .i64 m ∧ s6 = .int .i64 p ∧ p ≤ L.length ∧ done.length + m = n ∧ getRecs n (L.drop p0) = (getRecs m (L.drop p)).map (fun q => (done ++ q.1, q.2)) ∧
        OR wr w1.heap.size s7 done ∧ Below w1.heap.size w1 wr) (fun s5 _ _ _ => (intOf s5).toNat)
      case atStart => exact ⟨n, p0, [], Nat.le_refl _, rfl, rfl, hp0, by simp, by simp, OR.empty (Nat.le_refl _), (Below.refl _ _).alloc (Nat.le_refl _) _⟩
      case round =>
        obtain ⟨m, p, done, hm, rfl, rfl, hp, hdl, hget, O, K⟩ := hrel
        have HG := Lib.hid hget
        have HO := Lib.hid O
        have HK := Lib.hid K
        have HDL := Lib.hid hdl
        clear hget O K hdl
        by_cases hpos : 0 < m
        · have HMM : Hid (m = (m - 1) + 1) := Lib.hid (by omega)
          go_wp2_with fail
          have HA2 := Lib.hid ((HA.out.below HK.out (Nat.le_refl _)).more HK.out.size)
          have HN2 : Hid (∀ {x}, (getRec (L.drop p) = none) → x = none → readN L = x) := Lib.hid fun h1 h2 => by
            rw [HRD.out, HG.out, HMM.out, getRecs_succ, h1, h2]; rfl
          have hdm := HDL.out
          go_loopw [6, 8, 9] (fun s6 s8 s9 wr2 => ∃ (k q : Nat) (ns : List Nat), k ≤ 3 ∧ s9 = .int .i64 k ∧ s6 = .int .i64 q ∧ q ≤ L.length ∧ nums (128 ^ 4) k (L.drop p) = some (ns, L.drop q) ∧
            OL wr2 wr.heap.size s8 (toI ns) ∧ Below wr.heap.size wr wr2) (fun _ _ s9 _ => 3 - (intOf s9).toNat)
          case atStart => exact ⟨0, p, [], by omega, rfl, rfl, hp, rfl, OL.empty (Nat.le_refl _), (Below.refl _ _).alloc (Nat.le_refl _) _⟩
          case round =>
            obtain ⟨k, q, ns, hk, rfl, rfl, hq, hns, O2, K2⟩ := hrel
            have HNS := Lib.hid hns
            have hln := nums_len hns
            have HLN := Lib.hid hln
            have HO2 := Lib.hid O2
            have HK2 := Lib.hid K2
            have hbt := Lib.hid ((HA2.out.below K2 (Nat.le_refl _)).more K2.size)
            clear hns hln O2 K2
            by_cases hlt : k < 3
            · go_wp2_with fail
              refine (get_any _ L q _ hbt.out hq).mono ?_
              rintro e w3 ⟨rfl, hor⟩
              rcases hor with ⟨x, q2, rfl, hq2, hnum⟩ | ⟨rfl, hnum⟩
              · have HNUM := Lib.hid hnum
                clear hnum
                have hx := num_lt4 HNUM.out
                have h63 : Hid ((toI ns).length + 1 ≤ maxLen) := Lib.hid (by rw [toI_len, HLN.out]; unfold maxLen; omega)
                have hby : Hid (((toI ns).length + 1) * 8 ≤ 140737488355328) := Lib.hid (by rw [toI_len, HLN.out]; omega)
                have hs2 := HK2.out.size
                go_wp2_with ((at_builtin; refine wpList_append_own _ rfl _ _ 25 rfl _ 2 i1 (.int .i64 0) 1 8 Tryz.underlying25 GI.out GZ0.out GZ1.out GZ2.out rfl (by decide) _ _ _ rfl (ownsRow_below HO2.out ((Below.refl _ _).alloc (Nat.le_refl _) _)) ⟨wr.heap.size, 0, none⟩ 1 1 [.int .i64 (x : Int)] rfl rfl (cell_one_new _ _ _) (fun x hx => by simp at hx; subst hx; rfl) h63.out hby.out (by simp; omega) ?_; intro v' w4 hown' hgrow hnil))
                refine ⟨⟨k + 1, q2, ns ++ [x], by omega, by go_num, rfl, hq2, nums_step HNS.out HNUM.out, by rw [toI_snoc]; exact OL.push _ hown', (HK2.out.alloc hs2 _).grown hgrow (by simp; omega) fun r hr => (HO2.out.lt hr).1⟩, by simp [intOf]; omega⟩
              · have hno : getRec (L.drop p) = none := by
                  rw [getRec_nums (m := 128 ^ 4) (by decide), nums_none (k := k + 1) (nums_stop HNS.out hnum) (by omega)]
                  rfl
                have HNO := Lib.hid (readN_no (HN2.out hno rfl))
                clear hno hnum
                go_wp2
                go_ret2
                have KK := HK.out.trans (HK2.out.mono HK.out.size)
                exact ⟨_, ret_two rfl (bool_eq HNO.out.1.symm), by rw [HNO.out.2]; exact HOA.out.below KK, HKA.out.trans (KK.mono HKA.out.size)⟩
            · obtain rfl : k = 3 := by omega
              obtain ⟨n0, n1, n2, rfl⟩ : ∃ a b c, ns = [a, b, c] := by
                have := HLN.out
                match ns, this with
                | [a, b, c], _ => exact ⟨a, b, c, rfl⟩
              have HG2 : Hid (getRec (L.drop p) = if recOkB ⟨n0, n1, n2⟩ then some (⟨n0, n1, n2⟩, L.drop q) else none) := Lib.hid (by
                rw [getRec_nums (m := 128 ^ 4) (by decide), HNS.out]; rfl)
              obtain ⟨A1, c1, g1, rfl, hA1, hB1, hz1, R1⟩ := open_list HO2.out
              obtain rfl := hA1 (by simp [toI])
              have hg1 := hz1 (by simp [toI])
              have q0 : wr.cell? ⟨g1, 0, none⟩ = some (.int .i64 n0) := (R1 0 (by simp [toI])).1
              have q1 : wr.cell? ⟨g1, 1, none⟩ = some (.int .i64 n1) := (R1 1 (by simp [toI])).1
              have q2 : wr.cell? ⟨g1, 2, none⟩ = some (.int .i64 n2) := (R1 2 (by simp [toI])).1
              have e3 : (toI [n0, n1, n2]).length = 3 := rfl
              rw [e3]
              have HKK := Lib.hid (HK.out.trans (HK2.out.mono HK.out.size))
              have HOO := Lib.hid (HO.out.below HK2.out)
              clear R1 e3 hA1 hz1 HO2 HNS HLN
              go_wp2_with fail
              have q0 : wr.drew.cell? ⟨g1, 0, none⟩ = some (.int .i64 n0) := q0
              have q1 : wr.drew.cell? ⟨g1, 1, none⟩ = some (.int .i64 n1) := q1
              have q2 : wr.drew.cell? ⟨g1, 2, none⟩ = some (.int .i64 n2) := q2
              go_region
              have Y := (Own.box2 HKK.out #[.int .i64 n0, .int .i64 n1, .int .i64 n2] 60).drew
              have HOd : Hid (OR ((wr.alloc (.cells #[.int .i64 n0, .int .i64 n1, .int .i64 n2] 60)).drew) w1.heap.size u7 done) := Lib.hid ((HOO.out.below ((Below.refl _ _).alloc (Nat.le_refl _) _)).below (Below.refl _ _).drew)
              clear q0 q1 q2 HKK HOO hbt HK2 HO HK
              generalize (wr.alloc (.cells #[.int .i64 n0, .int .i64 n1, .int .i64 n2] 60)).drew = W at Y HOd ⊢
              generalize wr.heap.size = g at Y ⊢
              have hC := Y.C
              go_wp2_with fail
              refine (specRecOk_any ⟨n0, n1, n2⟩ W).mono ?_
              rintro e w5 ⟨rfl, hb5⟩
              have Y5 := Y.step hb5
              have HO5 := Lib.hid (HOd.out.below hb5)
              have hC := Y5.C
              clear Y hb5 HOd
              cases hok : recOkB ⟨n0, n1, n2⟩
              · have hno : getRec (L.drop p) = none := by rw [HG2.out, hok]; rfl
                have HNO := Lib.hid (readN_no (HN2.out hno rfl))
                clear hno hok
                have HK5 := Lib.hid Y5.K
                clear Y5
                go_wp2
                go_ret2
                exact ⟨_, ret_two rfl (bool_eq HNO.out.1.symm), by rw [HNO.out.2]; exact HOA.out.below HK5.out, HKA.out.trans (HK5.out.mono HKA.out.size)⟩
              · have hyes : getRec (L.drop p) = some (⟨n0, n1, n2⟩, L.drop q) := by rw [HG2.out, hok]; rfl
                have HYES := Lib.hid hyes
                clear hyes hok
                have HK5 := Lib.hid Y5.K
                have h63 : Hid (done.length + 1 ≤ maxLen) := Lib.hid (by have := HDL.out; unfold maxLen; omega)
                have hby : Hid ((done.length + 1) * 24 ≤ 140737488355328) := Lib.hid (by have := HDL.out; omega)
                have hs5 := HK5.out.size
                clear Y5
                go_wp2_with ((at_builtin; refine wpList_append_own _ rfl _ _ 72 rfl w1.heap.size 60 i0 (.agg #[.int .i64 0, .int .i64 0, .int .i64 0]) 3 24 Tryz.underlying72 HI.out HZ0.out HZ1.out HZ2.out rfl (by decide) _ _ _ rfl (ownsRow_below HO5.out ((Below.refl _ _).alloc (Nat.le_refl _) _)) ⟨w5.heap.size, 0, none⟩ 1 1 [.int .i64 n0, .int .i64 n1, .int .i64 n2] rfl rfl (World.news_of_block (cs := #[.int .i64 n0, .int .i64 n1, .int .i64 n2]) (heap_alloc_new w5 _)) (by simp [Value.oneCell']) h63.out hby.out (by simp; omega) ?_; intro v' w6 hown' hgrow hnil))
                refine ⟨⟨m - 1, q, done ++ [⟨n0, n1, n2⟩], by omega, int_eq (by omega), rfl, hq, ?_, ?_, OR.push ⟨n0, n1, n2⟩ hown', (HK5.out.alloc hs5 _).grown hgrow (by simp; omega) fun r hr => (HO5.out.lt hr).1⟩, by simp [intOf]; omega⟩
                · have := HDL.out
                  rw [List.length_append, List.length_singleton]
                  omega
                · rw [HG.out, show getRecs m (L.drop p) = getRecs ((m - 1) + 1) (L.drop p) by rw [← HMM.out], getRecs_succ, HYES.out, Option.bind_some]
                  dsimp only
                  cases getRecs (m - 1) (L.drop q) with
                  | none => rfl
                  | some q => simp
        · obtain rfl : m = 0 := by omega
          have hend : readN L = if L.drop p = [] then some done else none := by
            rw [HRD.out, HG.out, getRecs_zero]
            simp
          have HEND := Lib.hid hend
          clear hend
          by_cases hme : p = L.length
          · have hr : readN L = some done := by rw [HEND.out, if_pos (by rw [hme]; simp)]
            have HR := Lib.hid (readN_yes hr)
            clear hr
            subst hme
            go_wp2
            go_ret2
            exact ⟨_, ret_two rfl (bool_eq HR.out.1.symm), by rw [HR.out.2]; exact HO.out.base HKA.out.size, HKA.out.trans (HK.out.mono HKA.out.size)⟩
          · have hr : readN L = none := by rw [HEND.out, if_neg (by intro e; have := List.drop_eq_nil_iff.1 e; omega)]
            have HR := Lib.hid (readN_no hr)
            have hne : ((p : Int) == (L.length : Int)) = false := by simp; omega
            have hne2 : ¬ (p : Int) = (L.length : Int) := by omega
            clear hr hme
            go_wp2
            go_ret2
            exact ⟨_, ret_two rfl (bool_eq HR.out.1.symm), by rw [HR.out.2]; exact HOA.out.below HK.out, HKA.out.trans (HK.out.mono HKA.out.size)⟩
  · have hno : readN L = none := by rw [readN_num (m := 128 ^ 4) (by decide), hnum]; rfl
    have HNO := Lib.hid (readN_no hno)
    clear hno hnum
    go_wp2
    go_ret2
    exact ⟨_, ret_two rfl (bool_eq HNO.out.1.symm), by rw [HNO.out.2]; exact HOA.out, HKA.out⟩
end Go.Proofs.YtdkmhaghnfhajaaGreat
/- Ec -/
set_option linter.unusedVariables false
namespace Go.Proofs.YtdkmhaghnfhajaaGreat
open Go.RowKit

/-- What ReadFrames answers of the bytes L. -/
def ReadAll (L : List Nat) (w : World) (e : Ending) (w' : World) : Prop :=
  ∃ v, e = .returned (.tuple #[v, .int .i64 ((framesN L).2 : Nat)]) ∧ OS w' w.heap.size v (framesN L).1 ∧ Below w.heap.size w w'
theorem getFrame_short {L : List Nat} (h : L.length < 4) : getFrame L = none := by unfold getFrame; rw [if_pos h]
theorem getFrame_cut {L : List Nat} (h : L.length < 4 + at2 L 0) : getFrame L = none := by
  unfold getFrame
  by_cases h4 : L.length < 4
  · rw [if_pos h4]
  · rw [if_neg h4, if_pos h]
theorem getFrame_sum {L : List Nat} (h : sumN ((L.drop 4).take (at2 L 0)) ≠ at2 L 2) : getFrame L = none := by
  unfold getFrame
  by_cases h4 : L.length < 4
  · rw [if_pos h4]
  · by_cases h5 : L.length < 4 + at2 L 0
    · rw [if_neg h4, if_pos h5]
    · rw [if_neg h4, if_neg h5, if_pos h]
theorem getFrame_bad {L : List Nat} (h : readN ((L.drop 4).take (at2 L 0)) = none) : getFrame L = none := by
  unfold getFrame
  by_cases h4 : L.length < 4
  · rw [if_pos h4]
  · by_cases h5 : L.length < 4 + at2 L 0
    · rw [if_neg h4, if_pos h5]
    · by_cases h6 : sumN ((L.drop 4).take (at2 L 0)) ≠ at2 L 2
      · rw [if_neg h4, if_neg h5, if_pos h6]
      · rw [if_neg h4, if_neg h5, if_neg h6, h]
theorem getFrame_good {L : List Nat} {l : List RecD} (h : 4 + at2 L 0 ≤ L.length) (hs : sumN ((L.drop 4).take (at2 L 0)) = at2 L 2) (hr : readN ((L.drop 4).take (at2 L 0)) = some l) : getFrame L = some (l, 4 + at2 L 0) := by
  unfold getFrame
  rw [if_neg (by omega), if_neg (by omega), if_neg (by simp [hs]), hr]

/-- So far it has come: p bytes, the lists done. -/
structure SoFar (L : List Nat) (p : Nat) (done : List (List RecD)) : Prop where
  le : p ≤ L.length
  short : done.length ≤ p
  it : framesN L = (done ++ (framesN (L.drop p)).1, p + (framesN (L.drop p)).2)
theorem SoFar.start (L : List Nat) : SoFar L 0 [] := ⟨Nat.zero_le _, Nat.le_refl _, by simp⟩
theorem SoFar.stop {L : List Nat} {p : Nat} {done : List (List RecD)} (h : SoFar L p done) (hg : getFrame (L.drop p) = none) : (framesN L).1 = done ∧ (framesN L).2 = p := by
  rw [h.it, framesN_none hg]
  simp
theorem SoFar.step {L : List Nat} {p k : Nat} {l : List RecD} {done : List (List RecD)} (h : SoFar L p done) (hg : getFrame (L.drop p) = some (l, k)) : SoFar L (p + k) (done ++ [l]) := by
  have hk := getFrame_len hg
  have hs := h.short
  rw [List.length_drop] at hk
  have hl := h.le
  refine ⟨by omega, by rw [List.length_append, List.length_singleton]; omega, ?_⟩
  rw [h.it, framesN_some hg, List.drop_drop]
  simp
  omega
end Go.Proofs.YtdkmhaghnfhajaaGreat
/- Ed -/
set_option linter.unusedVariables false
namespace Go.Proofs.YtdkmhaghnfhajaaGreat
open Go.RowKit

set_option maxRecDepth 100000 in
set_option maxHeartbeats 4000000 in
theorem specReadFrames_any (v : Value) (L : List Nat) (w : World) (h : Bt w w.heap.size v L) (hsz : L.length ≤ 4194304) :
    Calls Tryz.prog 91 #[v] w (ReadAll L w) := by
  have H := Lib.hid h
  obtain ⟨⟨A, c, rfl, hcap, -⟩, hl, hs⟩ := h
  have HS := Lib.hid hs
  have HL := Lib.hid hl
  have hl' : L.length ≤ 4194304 := hsz
  clear hs hl hsz
  obtain ⟨i0, hi, hz0, hz1, hz2⟩ := info_parts info_recs
  have HI := Lib.hid hi
  have HZ0 := Lib.hid hz0
  have HZ1 := Lib.hid hz1
  have HZ2 := Lib.hid hz2
  clear hi hz0 hz1 hz2
  generalize hn : L.length = n at *
  have HN := Lib.hid hn
  clear hn
  go_enter Tryz.func91, Tryz.ntmps91
  go_wp2_with fail
  go_loopw [4, 5] (fun s4 s5 wr => ∃ (p : Nat) (done : List (List RecD)), s5 = .int .i64 p ∧ p ≤ n ∧ SoFar L p done ∧ OS wr w.heap.size s4 done ∧ Below w.heap.size w wr) (fun _ s5 _ => n - (intOf s5).toNat)
  case atStart => exact ⟨0, [], rfl, Nat.zero_le _, SoFar.start L, OS.empty (Nat.le_refl _), (Below.refl _ _).alloc (Nat.le_refl _) _⟩
  case round =>
    obtain ⟨p, done, rfl, hp, hsf, O, K⟩ := hrel
    have HSF := Lib.hid hsf
    have HO := Lib.hid O
    have HK := Lib.hid K
    clear hsf O K
    by_cases h4 : p + 4 ≤ n
    · go_wp2_with fail
      have HB := Lib.hid ((H.out.below HK.out (Nat.le_refl _)).more HK.out.size)
      refine (l4Of_any _ L p _ rfl wr HB.out (by rw [HN.out]; omega)).mono ?_
      rintro e w1 ⟨rfl, hb1⟩
      have HAT := Lib.hid (at2_drop L p 0)
      have hm := at2_lt HS.out p
      have HK1 := Lib.hid (HK.out.trans (hb1.mono HK.out.size))
      have HO1 := Lib.hid (HO.out.below hb1)
      clear HB hb1 HK HO
      rw [Nat.add_zero] at HAT
      generalize hmm : at2 L p = m at *
      have HM := Lib.hid hmm
      clear hmm
      by_cases h5 : p + 4 + m ≤ n
      · obtain ⟨b, off, rfl, hb, -⟩ := H.out.cell (k := p) (by rw [HN.out]; omega)
        have e4 : (L.drop p).drop 4 = L.drop (p + 4) := by rw [List.drop_drop]
        have HE1 : Hid (sumN ((L.drop (p + 4)).take m) ≠ at2 L (p + 2) → (framesN L).1 = done ∧ (framesN L).2 = p) := Lib.hid fun hh =>
          HSF.out.stop (getFrame_sum (by rw [HAT.out, at2_drop, e4]; exact hh))
        have HE2 : Hid (readN ((L.drop (p + 4)).take m) = none → (framesN L).1 = done ∧ (framesN L).2 = p) := Lib.hid fun hh =>
          HSF.out.stop (getFrame_bad (by rw [HAT.out, e4]; exact hh))
        have HE3 : Hid (∀ l, sumN ((L.drop (p + 4)).take m) = at2 L (p + 2) → readN ((L.drop (p + 4)).take m) = some l → SoFar L (p + (4 + m)) (done ++ [l])) := Lib.hid fun l h1 h2 =>
          HSF.out.step (by
            have := getFrame_good (L := L.drop p) (l := l) (by rw [HAT.out, List.length_drop, HN.out]; omega) (by rw [HAT.out, at2_drop, e4]; exact h1) (by rw [HAT.out, e4]; exact h2)
            rwa [HAT.out] at this)
        have HB : Hid (∀ Q, (¬ c = p + 4 → Q = some ⟨b, off + (p + 4), none⟩) → Bt w w.heap.size (.slice Q m (c - (p + 4))) ((L.drop (p + 4)).take m)) := Lib.hid fun Q hQ => by
          by_cases hc : c = p + 4
          · obtain rfl : m = 0 := by omega
            rw [List.take_zero]
            exact Bt.nil _ _ _ _
          · rw [hQ hc]
            exact (H.out.drop_at (k := p + 4) (A := some ⟨b, off + (p + 4), none⟩) (by omega) (fun _ => rfl)).take (k := m) (c' := c - (p + 4)) (by rw [List.length_drop, HN.out]; omega) (by omega)
        have HLB := Lib.hid ((H.out.below HK1.out (Nat.le_refl _)).more HK1.out.size)
        obtain ⟨vs, O0, SG⟩ := HO1.out
        have HO0 := Lib.hid O0
        have HSG := Lib.hid SG
        clear O0 SG e4 HSF
        generalize (L.drop (p + 4)).take m = M at *
        by_cases hc : c = p + 4
        · subst hc
          have HBT := Lib.hid (((HB.out (some ⟨b, off, none⟩) (fun h => absurd rfl h)).below HK1.out (Nat.le_refl _)).more HK1.out.size)
          rw [Nat.sub_self] at HBT
          clear HB
          go_wp2_with fail
          refine (specReadRecs_any _ M w1 HBT.out).mono ?_
          rintro e w2 ⟨v2, rfl, O2, hb2⟩
          have HBT2 := Lib.hid (HBT.out.go hb2)
          have HLB2 := Lib.hid (HLB.out.go hb2)
          have HH2 := Lib.hid hb2
          have HO2 := Lib.hid O2
          obtain ⟨A2, c2, g2, rfl, -⟩ := O2.open_
          clear O2 hb2 HBT HLB
          generalize hq : readN M = q at *
          clear hq
          go_wp2_with fail
          refine (specSumOf_any _ M w2 HBT2.out).mono ?_
          rintro e w3 ⟨rfl, rfl⟩
          go_wp2_with fail
          refine (l4Of_any _ L (p + 2) ((p : Int) + 2) (by omega) w2 HLB2.out (by rw [HN.out]; omega)).mono ?_
          rintro e w3 ⟨rfl, hb3⟩
          have HH3 := Lib.hid hb3
          have HK3 := Lib.hid ((HK1.out.trans (HH2.out.mono HK1.out.size)).trans (hb3.mono (HK1.out.trans (HH2.out.mono HK1.out.size)).size))
          clear hb3 HBT2 HLB2
          generalize sumN M = sm at *
          generalize at2 L (p + 2) = t at *
          by_cases hs : sm = t
          · subst hs
            cases q with
            | none =>
              have HC := Lib.hid (HE2.out rfl)
              go_wp2
              go_ret2
              exact ⟨_, ret_two rfl (int_eq (by rw [HC.out.2])), by rw [HC.out.1]; exact (HO1.out.below HH2.out).below HH3.out, HK3.out⟩
            | some l =>
              have HS3 := Lib.hid (HE3.out l rfl rfl)
              have h63 : Hid (done.length + 1 ≤ maxLen) := Lib.hid (by have := HS3.out.short; have := HS3.out.le; rw [HN.out] at this; simp at *; unfold maxLen; omega)
              have hby : Hid ((done.length + 1) * 24 ≤ 140737488355328) := Lib.hid (by have := HS3.out.short; have := HS3.out.le; rw [HN.out] at this; simp at *; omega)
              have hs3 := HK3.out.size
              have HR3 := Lib.hid (ownsRow_below (ownsRow_below HO0.out HH2.out) HH3.out)
              have HU3 := Lib.hid (HO2.out.below HH3.out)
              have HSG3 := Lib.hid ((HSG.out.below HH2.out).below HH3.out)
              have h13 := Lib.hid (Nat.le_trans HH2.out.size HH3.out.size)
              clear HE1 HE2 HE3 HH2 HH3 HO0 HO2 HSG HO1
              simp only [Option.getD_some] at HU3 ⊢
              go_wp2_with ((at_builtin; refine wpList_append_own _ rfl _ _ 117 rfl w.heap.size 72 i0 (.slice none 0 0) 1 24 Tryz.underlying117 HI.out HZ0.out HZ1.out HZ2.out rfl (by decide) _ _ _ rfl (ownsRow_below HR3.out ((Below.refl _ _).alloc (Nat.le_refl _) _)) ⟨w3.heap.size, 0, none⟩ 1 1 [.slice A2 l.length c2] rfl rfl (cell_one_new _ _ _) (fun x hx => by simp at hx; subst hx; rfl) h63.out hby.out (by simp; omega) ?_; intro v' w4 hown' hgrow hnil))
              refine ⟨⟨p + (4 + m), done ++ [l], int_eq (by omega), by omega, HS3.out, OS.push HR3.out HSG3.out h13.out HU3.out (((Keeps.of_below ((Below.refl _ _).alloc (Nat.le_refl _) _)).trans (Keeps.of_grownE hgrow))) hown', (HK3.out.alloc hs3 _).grown hgrow (by simp; omega) fun r hr => (World.ownsRow.lt HR3.out r hr).1⟩, by simp [intOf]; omega⟩
          · have hne : ¬ (sm : Int) = (t : Int) := by omega
            have HC := Lib.hid (HE1.out hs)
            go_wp2
            go_ret2
            exact ⟨_, ret_two rfl (int_eq (by rw [HC.out.2])), by rw [HC.out.1]; exact (HO1.out.below HH2.out).below HH3.out, HK3.out⟩
        · have HBT := Lib.hid (((HB.out _ (fun _ => rfl)).below HK1.out (Nat.le_refl _)).more HK1.out.size)
          clear HB
          go_wp2_with fail
          refine (specReadRecs_any _ M w1 HBT.out).mono ?_
          rintro e w2 ⟨v2, rfl, O2, hb2⟩
          have HBT2 := Lib.hid (HBT.out.go hb2)
          have HLB2 := Lib.hid (HLB.out.go hb2)
          have HH2 := Lib.hid hb2
          have HO2 := Lib.hid O2
          obtain ⟨A2, c2, g2, rfl, -⟩ := O2.open_
          clear O2 hb2 HBT HLB
          generalize hq : readN M = q at *
          clear hq
          go_wp2_with fail
          refine (specSumOf_any _ M w2 HBT2.out).mono ?_
          rintro e w3 ⟨rfl, rfl⟩
          go_wp2_with fail
          refine (l4Of_any _ L (p + 2) ((p : Int) + 2) (by omega) w2 HLB2.out (by rw [HN.out]; omega)).mono ?_
          rintro e w3 ⟨rfl, hb3⟩
          have HH3 := Lib.hid hb3
          have HK3 := Lib.hid ((HK1.out.trans (HH2.out.mono HK1.out.size)).trans (hb3.mono (HK1.out.trans (HH2.out.mono HK1.out.size)).size))
          clear hb3 HBT2 HLB2
          generalize sumN M = sm at *
          generalize at2 L (p + 2) = t at *
          by_cases hs : sm = t
          · subst hs
            cases q with
            | none =>
              have HC := Lib.hid (HE2.out rfl)
              go_wp2
              go_ret2
              exact ⟨_, ret_two rfl (int_eq (by rw [HC.out.2])), by rw [HC.out.1]; exact (HO1.out.below HH2.out).below HH3.out, HK3.out⟩
            | some l =>
              have HS3 := Lib.hid (HE3.out l rfl rfl)
              have h63 : Hid (done.length + 1 ≤ maxLen) := Lib.hid (by have := HS3.out.short; have := HS3.out.le; rw [HN.out] at this; simp at *; unfold maxLen; omega)
              have hby : Hid ((done.length + 1) * 24 ≤ 140737488355328) := Lib.hid (by have := HS3.out.short; have := HS3.out.le; rw [HN.out] at this; simp at *; omega)
              have hs3 := HK3.out.size
              have HR3 := Lib.hid (ownsRow_below (ownsRow_below HO0.out HH2.out) HH3.out)
              have HU3 := Lib.hid (HO2.out.below HH3.out)
              have HSG3 := Lib.hid ((HSG.out.below HH2.out).below HH3.out)
              have h13 := Lib.hid (Nat.le_trans HH2.out.size HH3.out.size)
              clear HE1 HE2 HE3 HH2 HH3 HO0 HO2 HSG HO1
              simp only [Option.getD_some] at HU3 ⊢
              go_wp2_with ((at_builtin; refine wpList_append_own _ rfl _ _ 117 rfl w.heap.size 72 i0 (.slice none 0 0) 1 24 Tryz.underlying117 HI.out HZ0.out HZ1.out HZ2.out rfl (by decide) _ _ _ rfl (ownsRow_below HR3.out ((Below.refl _ _).alloc (Nat.le_refl _) _)) ⟨w3.heap.size, 0, none⟩ 1 1 [.slice A2 l.length c2] rfl rfl (cell_one_new _ _ _) (fun x hx => by simp at hx; subst hx; rfl) h63.out hby.out (by simp; omega) ?_; intro v' w4 hown' hgrow hnil))
              refine ⟨⟨p + (4 + m), done ++ [l], int_eq (by omega), by omega, HS3.out, OS.push HR3.out HSG3.out h13.out HU3.out (((Keeps.of_below ((Below.refl _ _).alloc (Nat.le_refl _) _)).trans (Keeps.of_grownE hgrow))) hown', (HK3.out.alloc hs3 _).grown hgrow (by simp; omega) fun r hr => (World.ownsRow.lt HR3.out r hr).1⟩, by simp [intOf]; omega⟩
          · have hne : ¬ (sm : Int) = (t : Int) := by omega
            have HC := Lib.hid (HE1.out hs)
            go_wp2
            go_ret2
            exact ⟨_, ret_two rfl (int_eq (by rw [HC.out.2])), by rw [HC.out.1]; exact (HO1.out.below HH2.out).below HH3.out, HK3.out⟩
      · have hcut := HSF.out.stop (getFrame_cut (by rw [List.length_drop, HN.out, HAT.out]; omega))
        have HC := Lib.hid hcut
        clear hcut
        go_wp2
        go_ret2
        exact ⟨_, ret_two rfl (int_eq (by rw [HC.out.2])), by rw [HC.out.1]; exact HO1.out, HK1.out⟩
    · have hend := HSF.out.stop (getFrame_short (by rw [List.length_drop, HN.out]; omega))
      have HC := Lib.hid hend
      clear hend
      go_wp2
      go_ret2
      exact ⟨_, ret_two rfl (int_eq (by rw [HC.out.2])), by rw [HC.out.1]; exact HO.out, HK.out⟩
end Go.Proofs.YtdkmhaghnfhajaaGreat
/- Dq -/
set_option linter.unusedVariables false
namespace Go.Proofs.YtdkmhaghnfhajaaGreat
open Go.RowKit

set_option maxRecDepth 100000 in
set_option maxHeartbeats 8000000 in
theorem sameState_any (u v : Value) (s : StD) (w : World) (hu : IsSt w w.heap.size u s) (hv : IsSt w w.heap.size v s) : Calls Tryz.prog 93 #[u, v] w fun e w' => e = .returned (.bool true) ∧ Below w.heap.size w w' := by
  obtain ⟨⟨A0, A1, A2, A3, c0, c1, c2, c3, rfl, s0, s1, s2, s3⟩, b0, b1, b2, b3⟩ := hu
  obtain ⟨⟨B0, B1, B2, B3, d0, d1, d2, d3, rfl, t0, t1, t2, t3⟩, -, -, -, -⟩ := hv
  obtain ⟨ph, co, ck, bo, ba, lb, l0, l1, l2, l3, gd, pr⟩ := s
  dsimp only at *
  have S0 := Lib.hid s0
  have T0 := Lib.hid t0
  have hn0 : l0.length ≤ 2 ^ 63 - 1 := by unfold maxLen at b0; omega
  clear s0 t0 b0
  generalize hq0 : l0.length = n0 at *
  have Q0 := Lib.hid hq0
  clear hq0
  have S1 := Lib.hid s1
  have T1 := Lib.hid t1
  have hn1 : l1.length ≤ 2 ^ 63 - 1 := by unfold maxLen at b1; omega
  clear s1 t1 b1
  generalize hq1 : l1.length = n1 at *
  have Q1 := Lib.hid hq1
  clear hq1
  have S2 := Lib.hid s2
  have T2 := Lib.hid t2
  have hn2 : l2.length ≤ 2 ^ 63 - 1 := by unfold maxLen at b2; omega
  clear s2 t2 b2
  generalize hq2 : l2.length = n2 at *
  have Q2 := Lib.hid hq2
  clear hq2
  have S3 := Lib.hid s3
  have T3 := Lib.hid t3
  have hn3 : l3.length ≤ 2 ^ 63 - 1 := by unfold maxLen at b3; omega
  clear s3 t3 b3
  generalize hq3 : l3.length = n3 at *
  have Q3 := Lib.hid hq3
  clear hq3
  have X := (Own.box w (stC A0 A1 A2 A3 n0 c0 n1 c1 n2 c2 n3 c3 ph co ck bo ba lb gd pr) 38).alloc (.cells (stC B0 B1 B2 B3 n0 d0 n1 d1 n2 d2 n3 d3 ph co ck bo ba lb gd pr) 38)
  have Y := Own.box2 ((Below.refl _ _).alloc (Nat.le_refl _) (.cells (stC A0 A1 A2 A3 n0 c0 n1 c1 n2 c2 n3 c3 ph co ck bo ba lb gd pr) 38)) (stC B0 B1 B2 B3 n0 d0 n1 d1 n2 d2 n3 d3 ph co ck bo ba lb gd pr) 38 (w := w)
  rw [heap_size_alloc_] at Y
  go_enter Tryz.func93, Tryz.ntmps93
  go_wp2_with fail
  generalize ((w.alloc (.cells (stC A0 A1 A2 A3 n0 c0 n1 c1 n2 c2 n3 c3 ph co ck bo ba lb gd pr) 38)).alloc (.cells (stC B0 B1 B2 B3 n0 d0 n1 d1 n2 d2 n3 d3 ph co ck bo ba lb gd pr) 38)) = w1 at X Y ⊢
  go_loopw [5] (fun i wr => ∃ k : Nat, k ≤ n0 ∧ i = .int .i64 k ∧ Own w wr w.heap.size (stC A0 A1 A2 A3 n0 c0 n1 c1 n2 c2 n3 c3 ph co ck bo ba lb gd pr) ∧ Own w wr (w.heap.size + 1) (stC B0 B1 B2 B3 n0 d0 n1 d1 n2 d2 n3 d3 ph co ck bo ba lb gd pr)) (fun i _ => n0 - (intOf i).toNat)
  case atStart => exact ⟨0, Nat.zero_le _, rfl, X, Y⟩
  case round =>
    clear X Y
    obtain ⟨k, hk, rfl, X, Y⟩ := hrel
    have hX := X.C
    have hY := Y.C
    by_cases hlt : k < n0
    · obtain ⟨b, off, rfl, hb, hc⟩ := (S0.out.below X.K (Nat.le_refl _)).cell hlt
      obtain ⟨b', off', rfl, hb', hc'⟩ := (T0.out.below X.K (Nat.le_refl _)).cell hlt
      have hp := podCs_at l0 (i := k) (by rw [Q0.out]; exact hlt)
      have q0 := (hc 0 (by decide)).trans hp.1
      have q1 := (hc 1 (by decide)).trans hp.2
      have r0 := (hc' 0 (by decide)).trans hp.1
      have r1 := (hc' 1 (by decide)).trans hp.2
      rw [Nat.add_zero] at q0 r0
      clear hc hc' hp hb hb'
      generalize podA l0 k = z at *
      obtain ⟨x, y⟩ := z
      dsimp only at q0 q1 r0 r1
      go_wp2_with fail
      go_quiet (fail)
      go_wp2_with fail
      exact ⟨⟨k + 1, by omega, by go_num, X.drewN _, Y.drewN _⟩, by simp [intOf]; omega⟩
    · obtain rfl : n0 = k := by omega
      clear hlt hk
      go_wp2_with fail
      go_loopw [6] (fun i wr => ∃ k : Nat, k ≤ n1 ∧ i = .int .i64 k ∧ Own w wr w.heap.size (stC A0 A1 A2 A3 n0 c0 n1 c1 n2 c2 n3 c3 ph co ck bo ba lb gd pr) ∧ Own w wr (w.heap.size + 1) (stC B0 B1 B2 B3 n0 d0 n1 d1 n2 d2 n3 d3 ph co ck bo ba lb gd pr)) (fun i _ => n1 - (intOf i).toNat)
      case atStart => exact ⟨0, Nat.zero_le _, rfl, X, Y⟩
      case round =>
        clear X Y hX hY
        obtain ⟨k, hk, rfl, X, Y⟩ := hrel
        have hX := X.C
        have hY := Y.C
        by_cases hlt : k < n1
        · obtain ⟨b, off, rfl, hb, hc⟩ := (S1.out.below X.K (Nat.le_refl _)).cell hlt
          obtain ⟨b', off', rfl, hb', hc'⟩ := (T1.out.below X.K (Nat.le_refl _)).cell hlt
          have hp := mntCs_at l1 (i := k) (by rw [Q1.out]; exact hlt)
          have q0 := (hc 0 (by decide)).trans hp.1
          have q1 := (hc 1 (by decide)).trans hp.2
          have r0 := (hc' 0 (by decide)).trans hp.1
          have r1 := (hc' 1 (by decide)).trans hp.2
          rw [Nat.add_zero] at q0 r0
          clear hc hc' hp hb hb'
          generalize mntA l1 k = z at *
          obtain ⟨x, y⟩ := z
          dsimp only at q0 q1 r0 r1
          go_wp2_with fail
          go_quiet (fail)
          go_wp2_with fail
          exact ⟨⟨k + 1, by omega, by go_num, X.drewN _, Y.drewN _⟩, by simp [intOf]; omega⟩
        · obtain rfl : n1 = k := by omega
          clear hlt hk
          go_wp2_with fail
          go_loopw [7] (fun i wr => ∃ k : Nat, k ≤ n2 ∧ i = .int .i64 k ∧ Own w wr w.heap.size (stC A0 A1 A2 A3 n0 c0 n1 c1 n2 c2 n3 c3 ph co ck bo ba lb gd pr) ∧ Own w wr (w.heap.size + 1) (stC B0 B1 B2 B3 n0 d0 n1 d1 n2 d2 n3 d3 ph co ck bo ba lb gd pr)) (fun i _ => n2 - (intOf i).toNat)
          case atStart => exact ⟨0, Nat.zero_le _, rfl, X, Y⟩
          case round =>
            clear X Y hX hY
            obtain ⟨k, hk, rfl, X, Y⟩ := hrel
            have hX := X.C
            have hY := Y.C
            by_cases hlt : k < n2
            · obtain ⟨b, off, rfl, hb, hc⟩ := (S2.out.below X.K (Nat.le_refl _)).cell hlt
              obtain ⟨b', off', rfl, hb', hc'⟩ := (T2.out.below X.K (Nat.le_refl _)).cell hlt
              have hp := devCs_at l2 (i := k) (by rw [Q2.out]; exact hlt)
              have q0 := hc 0 (by decide)
              have r0 := hc' 0 (by decide)
              rw [Nat.add_zero, Nat.mul_one, Nat.add_zero, hp] at q0 r0
              clear hc hc' hp hb hb'
              generalize devA l2 k = z at *
              go_wp2_with fail
              go_quiet (fail)
              go_wp2_with fail
              exact ⟨⟨k + 1, by omega, by go_num, X.drewN _, Y.drewN _⟩, by simp [intOf]; omega⟩
            · obtain rfl : n2 = k := by omega
              clear hlt hk
              go_wp2_with fail
              go_loopw [8] (fun i wr => ∃ k : Nat, k ≤ n3 ∧ i = .int .i64 k ∧ Own w wr w.heap.size (stC A0 A1 A2 A3 n0 c0 n1 c1 n2 c2 n3 c3 ph co ck bo ba lb gd pr) ∧ Own w wr (w.heap.size + 1) (stC B0 B1 B2 B3 n0 d0 n1 d1 n2 d2 n3 d3 ph co ck bo ba lb gd pr)) (fun i _ => n3 - (intOf i).toNat)
              case atStart => exact ⟨0, Nat.zero_le _, rfl, X, Y⟩
              case round =>
                clear X Y hX hY
                obtain ⟨k, hk, rfl, X, Y⟩ := hrel
                have hX := X.C
                have hY := Y.C
                by_cases hlt : k < n3
                · obtain ⟨b, off, rfl, hb, hc⟩ := (S3.out.below X.K (Nat.le_refl _)).cell hlt
                  obtain ⟨b', off', rfl, hb', hc'⟩ := (T3.out.below X.K (Nat.le_refl _)).cell hlt
                  have hp := lkCs_at l3 (i := k) (by rw [Q3.out]; exact hlt)
                  have q0 := hc 0 (by decide)
                  have r0 := hc' 0 (by decide)
                  rw [Nat.add_zero, Nat.mul_one, Nat.add_zero, hp] at q0 r0
                  clear hc hc' hp hb hb'
                  generalize lkA l3 k = z at *
                  go_wp2_with fail
                  go_quiet (fail)
                  go_wp2_with fail
                  exact ⟨⟨k + 1, by omega, by go_num, X.drewN _, Y.drewN _⟩, by simp [intOf]; omega⟩
                · obtain rfl : n3 = k := by omega
                  have hend := X.K
                  go_wp2_with fail
                  go_ret
                  exact ⟨rfl, hend⟩

end Go.Proofs.YtdkmhaghnfhajaaGreat
/- Nb -/
set_option linter.unusedVariables false
namespace Go.Proofs.YtdkmhaghnfhajaaGreat
open Go.RowKit

theorem AgD.replay {d : PlanD} {s : StD} {st : List Nat} (h : AgD d s st) : ∃ ls, framesN st = (ls, st.length) ∧ replayD d ls = (s, true) := by
  obtain ⟨ls, hf, hr⟩ := h.it
  exact ⟨ls, hf, by unfold replayD; rw [hr]⟩

set_option maxRecDepth 100000 in
set_option maxHeartbeats 8000000 in
theorem agentOk_any (v : Value) (d : PlanD) (s : StD) (st : List Nat) (w : World) (h : IsAg w w.heap.size v d s st) (ha : AgD d s st) :
    Calls Tryz.prog 52 #[v] w fun e w' => e = .returned (.bool true) ∧ Below w.heap.size w w' := by
  obtain ⟨p0, p1, p2, p3, s0, s1, s2, s3, b, rfl, hp, hs, hb, hre⟩ := h.it
  obtain ⟨Ab, cb, rfl, hcap⟩ : ∃ A c, b = .slice A st.length c ∧ st.length ≤ c := by
    obtain ⟨⟨A, c, e, hc, -⟩, -, -⟩ := hb
    exact ⟨A, c, e, hc⟩
  have HP := Lib.hid hp
  have HS := Lib.hid hs
  have HB := Lib.hid hb
  have HA := Lib.hid ha
  have HI : Hid ((Tryz.prog.info? 38).map (·.size) = some 12) := Lib.hid (by kernel_rfl)
  obtain ⟨ls, hf, hrep⟩ := ha.replay
  have HF := Lib.hid hf
  have HREP := Lib.hid hrep
  have hlen := ha.len
  have X0 := Own.box w (agC p0 p1 p2 p3 d.l d.p d.t s.ph s.co s.ck s.bo s.ba s.lb s0 s1 s2 s3 s.gd s.pr (.slice Ab st.length cb)) 49
  clear h hp hs hb hre ha hf hrep hcap
  have i0 : (st.length : Int) ≤ 1200 := by omega
  go_enter Tryz.func52, Tryz.ntmps52
  go_wp2_with fail
  generalize w.alloc (.cells (agC p0 p1 p2 p3 d.l d.p d.t s.ph s.co s.ck s.bo s.ba s.lb s0 s1 s2 s3 s.gd s.pr (.slice Ab st.length cb)) 49) = w0 at X0 ⊢
  refine (spec_planOk_any _ d w0 ((HP.out.below X0.K (Nat.le_refl _)).more X0.K.size).is).mono ?_
  rintro e w1 ⟨rfl, hb⟩
  rw [HA.out.plan]
  have X1 := X0.step hb
  have hC := X1.C
  clear X0 hb
  go_wp2_with fail
  refine (specReadFrames_any _ st w1 ((HB.out.below X1.K (Nat.le_refl _)).more X1.K.size) (by omega)).mono ?_
  rintro e w2 ⟨vl, rfl, OL, hb⟩
  rw [HF.out] at OL ⊢
  dsimp only at OL ⊢
  have X2 := X1.step hb
  clear X1 hb hC
  have hC := X2.C
  have SL := Lib.hid OL.st
  obtain ⟨⟨LA, lc, rfl, -⟩, -⟩ := OL.st
  clear OL
  go_wp2_with fail
  have hrp := l15Replay_any _ _ d ls w2 ((HP.out.below X2.K (Nat.le_refl _)).more X2.K.size).is SL.out HA.out.plan
  rw [HREP.out] at hrp
  refine hrp.mono ?_
  clear hrp
  rintro e w3 ⟨vs, rfl, OT, hb⟩
  have X3 := X2.step hb
  clear X2 hb hC SL
  obtain ⟨y0, y1, y2, y3, rfl, -⟩ := OT.it
  obtain ⟨⟨B0, e0, rfl⟩, ⟨B1, e1, rfl⟩, ⟨B2, e2, rfl⟩, ⟨B3, e3, rfl⟩⟩ := OT.shapes
  have HB8 := heap_alloc_new w3 (.cells (stC none none none none 0 0 0 0 0 0 0 0 0 false 0 0 0 0 0 0) 38)
  go_upto_region 7 with (
    (with_reducible refine store_state (x := 5) (y := 33) (g := w3.heap.size) (cs := stC B0 B1 B2 B3 s.pods.length e0 s.mnts.length e1 s.devs.length e2 s.lks.length e3 s.ph s.co s.ck s.bo s.ba s.lb s.gd s.pr) ?_ ?_ HB8 ?_ ?_ ?_ ?_)
    · rfl
    · rfl
    · exact HI.out
    · rfl
    · simp [Value.oneCell'])
  have hA : Below w3.heap.size w3 (w3.alloc (.cells (stC none none none none 0 0 0 0 0 0 0 0 0 false 0 0 0 0 0 0) 38)) := (Below.refl _ _).alloc (Nat.le_refl _) _
  have hA2 := below_setRow hA (Nat.le_refl _) (stC B0 B1 B2 B3 s.pods.length e0 s.mnts.length e1 s.devs.length e2 s.lks.length e3 s.ph s.co s.ck s.bo s.ba s.lb s.gd s.pr)
  have X4 := X3.step hA2
  have OT4 := Lib.hid (OT.below hA2)
  have HB9 := setRow_heap _ _ _ (stC B0 B1 B2 B3 s.pods.length e0 s.mnts.length e1 s.devs.length e2 s.lks.length e3 s.ph s.co s.ck s.bo s.ba s.lb s.gd s.pr) _ _ HB8
  clear X3 hA hA2 OT HB8
  generalize (w3.alloc (.cells (stC none none none none 0 0 0 0 0 0 0 0 0 false 0 0 0 0 0 0) 38)).setRow w3.heap.size (stC B0 B1 B2 B3 s.pods.length e0 s.mnts.length e1 s.devs.length e2 s.lks.length e3 s.ph s.co s.ck s.bo s.ba s.lb s.gd s.pr) = w4 at X4 OT4 HB9 ⊢
  generalize w3.heap.size = g at HB9 ⊢
  have hC := X4.C
  have hD : ∀ o, w4.cell? ⟨g, o, none⟩ = (stC B0 B1 B2 B3 s.pods.length e0 s.mnts.length e1 s.devs.length e2 s.lks.length e3 s.ph s.co s.ck s.bo s.ba s.lb s.gd s.pr)[o]? := fun o => cell_of_row _ _ o _ _ _ HB9
  clear HB9
  go_wp2_with fail
  refine (sameState_any _ _ s w4 OT4.out.st ((HS.out.below X4.K (Nat.le_refl _)).more X4.K.size).is).mono ?_
  rintro e w5 ⟨rfl, hb⟩
  have X5 := X4.step hb
  clear X4 hb hC hD
  go_wp2_with fail
  go_ret
  exact ⟨rfl, X5.K⟩

set_option maxRecDepth 100000 in
set_option maxHeartbeats 8000000 in
theorem obeyed_any (v : Value) (d : PlanD) (s : StD) (st : List Nat) (k a b0 : Int) (w : World) (h : IsAg w w.heap.size v d s st) (ha : AgD d s st) :
    Calls Tryz.prog 20 #[v, .agg (ordC k a b0)] w (ObeyedA w d (obeyD d s st k a b0)) := by
  have HAG := Lib.hid h
  have HA := Lib.hid ha
  obtain ⟨p0, p1, p2, p3, s0, s1, s2, s3, b, rfl, -, -, -, -⟩ := h.it
  have HI : Hid ((Tryz.prog.info? 49).map (·.size) = some 20) := Lib.hid (by kernel_rfl)
  obtain ⟨ans, hans⟩ : ∃ ans, obeyD d s st k a b0 = ans := ⟨_, rfl⟩
  rw [hans]
  have HANS := Lib.hid hans
  clear h ha hans
  have T0 := TP.start w (agC p0 p1 p2 p3 d.l d.p d.t s.ph s.co s.ck s.bo s.ba s.lb s0 s1 s2 s3 s.gd s.pr b) (ordC k a b0) (agC (.slice none 0 0) (.slice none 0 0) (.slice none 0 0) (.slice none 0 0) 0 0 0 0 false 0 0 0 0 (.slice none 0 0) (.slice none 0 0) (.slice none 0 0) (.slice none 0 0) 0 0 (.slice none 0 0)) 49 55 49
  have Ha : (((w.alloc (.cells (agC p0 p1 p2 p3 d.l d.p d.t s.ph s.co s.ck s.bo s.ba s.lb s0 s1 s2 s3 s.gd s.pr b) 49)).alloc (.cells (ordC k a b0) 55)).alloc (.cells (agC (.slice none 0 0) (.slice none 0 0) (.slice none 0 0) (.slice none 0 0) 0 0 0 0 false 0 0 0 0 (.slice none 0 0) (.slice none 0 0) (.slice none 0 0) (.slice none 0 0) 0 0 (.slice none 0 0)) 49)).heap[w.heap.size]? = some (.cells (agC p0 p1 p2 p3 d.l d.p d.t s.ph s.co s.ck s.bo s.ba s.lb s0 s1 s2 s3 s.gd s.pr b) 49) := by
    have hb := ((Below.refl (w.alloc (.cells (agC p0 p1 p2 p3 d.l d.p d.t s.ph s.co s.ck s.bo s.ba s.lb s0 s1 s2 s3 s.gd s.pr b) 49)).heap.size (w.alloc (.cells (agC p0 p1 p2 p3 d.l d.p d.t s.ph s.co s.ck s.bo s.ba s.lb s0 s1 s2 s3 s.gd s.pr b) 49))).alloc (Nat.le_refl _) (.cells (ordC k a b0) 55)).alloc (by simp) (.cells (agC (.slice none 0 0) (.slice none 0 0) (.slice none 0 0) (.slice none 0 0) 0 0 0 0 false 0 0 0 0 (.slice none 0 0) (.slice none 0 0) (.slice none 0 0) (.slice none 0 0) 0 0 (.slice none 0 0)) 49)
    exact (hb.block w.heap.size (by simp)).trans (heap_alloc_new w _)
  have H4 : (((w.alloc (.cells (agC p0 p1 p2 p3 d.l d.p d.t s.ph s.co s.ck s.bo s.ba s.lb s0 s1 s2 s3 s.gd s.pr b) 49)).alloc (.cells (ordC k a b0) 55)).alloc (.cells (agC (.slice none 0 0) (.slice none 0 0) (.slice none 0 0) (.slice none 0 0) 0 0 0 0 false 0 0 0 0 (.slice none 0 0) (.slice none 0 0) (.slice none 0 0) (.slice none 0 0) 0 0 (.slice none 0 0)) 49)).heap[w.heap.size + 1 + 1]? = some (.cells (agC (.slice none 0 0) (.slice none 0 0) (.slice none 0 0) (.slice none 0 0) 0 0 0 0 false 0 0 0 0 (.slice none 0 0) (.slice none 0 0) (.slice none 0 0) (.slice none 0 0) 0 0 (.slice none 0 0)) 49) := by
    have := heap_alloc_new ((w.alloc (.cells (agC p0 p1 p2 p3 d.l d.p d.t s.ph s.co s.ck s.bo s.ba s.lb s0 s1 s2 s3 s.gd s.pr b) 49)).alloc (.cells (ordC k a b0) 55)) (.cells (agC (.slice none 0 0) (.slice none 0 0) (.slice none 0 0) (.slice none 0 0) 0 0 0 0 false 0 0 0 0 (.slice none 0 0) (.slice none 0 0) (.slice none 0 0) (.slice none 0 0) 0 0 (.slice none 0 0)) 49)
    simpa only [heap_size_alloc_] using this
  go_enter Tryz.func20, Tryz.ntmps20
  go_upto_region 1 with fail
  generalize ((w.alloc (.cells (agC p0 p1 p2 p3 d.l d.p d.t s.ph s.co s.ck s.bo s.ba s.lb s0 s1 s2 s3 s.gd s.pr b) 49)).alloc (.cells (ordC k a b0) 55)).alloc (.cells (agC (.slice none 0 0) (.slice none 0 0) (.slice none 0 0) (.slice none 0 0) 0 0 0 0 false 0 0 0 0 (.slice none 0 0) (.slice none 0 0) (.slice none 0 0) (.slice none 0 0) 0 0 (.slice none 0 0)) 49) = w0 at T0 Ha H4 ⊢
  go_upto_region 3 with (first
    | (go_at_call 52
       refine (agentOk_any _ d s st w0 ((HAG.out.below T0.A.K (Nat.le_refl _)).more T0.A.K.size) HA.out).mono ?_
       rintro e w1 ⟨rfl, hb⟩)
    | ((with_reducible refine load_agent (x := 2) (g := w.heap.size) (cs := agC p0 p1 p2 p3 d.l d.p d.t s.ph s.co s.ck s.bo s.ba s.lb s0 s1 s2 s3 s.gd s.pr b) ?_ Ha ?_ ?_)
       · rfl
       · exact HI.out))
  have T1 := T0.step hb
  replace Ha := (hb.block _ T0.A.z).trans Ha
  replace H4 := (hb.block _ T0.O.z).trans H4
  clear hb T0
  have hD := T1.Z.C
  go_wp2_with (first
    | (have hq := H42
       clear hq
       (with_reducible refine store_agent (x := 4) (y := 13) (g := w.heap.size + 1 + 1) (cs := cs) ?_ ?_ H42 ?_ ?_ ?_ ?_)
       · rfl
       · rfl
       · rw [hsz]; exact HI.out
       · rw [hsz]; rfl
       · exact hone)
    | (go_at_call 53
       refine (l15Obey_any _ d s st k a b0 _ ((HAG.out.below T1.A.K (Nat.le_refl _)).more T1.A.K.size) HA.out.ok HA.out.len).mono ?_
       rw [HANS.out]
       rintro e w2 ⟨v2, rfl, OA, hb2⟩
       replace OA := OA.base T1.A.K.size
       have T2 := T1.step hb2
       have H42 := (hb2.block _ T1.O.z).trans H4
       obtain ⟨cs, rfl, hsz, hone⟩ := OA.flat)
    | ((with_reducible refine load_agent (x := 2) (g := w.heap.size) (cs := agC p0 p1 p2 p3 d.l d.p d.t s.ph s.co s.ck s.bo s.ba s.lb s0 s1 s2 s3 s.gd s.pr b) ?_ Ha ?_ ?_)
       · rfl
       · exact HI.out))
  have KS : Keeps (· = w.heap.size + 1 + 1) w2 (w2.setRow (w.heap.size + 1 + 1) cs) := keeps_setRow ..
  exact bodyPost_ret (v := .tuple #[.agg cs, .int .i64 ans.2]) (results_two_row Tryz.results20 _ _ _ _ _ _ _ _ rfl rfl (setRow_heap w2 _ _ _ _ _ H42) Tryz.underlying49 rfl (by rw [hsz]; exact HI.out)) rfl ⟨_, rfl, OA.keepsT KS H42 (by decide), below_setRow T2.O.K (by omega) _⟩
end Go.Proofs.YtdkmhaghnfhajaaGreat
/- Ma -/
set_option linter.unusedVariables false
namespace Go.Proofs.YtdkmhaghnfhajaaGreat
open Go.RowKit Go.Maps

theorem plainElem_bool_is {H : Type} {P : Program} {e : TypeId} (he : P.underlying e = some .bool) {v : Value} {z : DataW H × List MemPlace} (h : plainElem P e v = some z) : ∃ x, v = .bool x ∧ z = (.lit (.bool x), []) := by
  unfold plainElem at h
  rw [he] at h
  cases v <;> simp at h
  subst h
  exact ⟨_, rfl, rfl⟩

/-- A map of whole numbers to true: those at which f is, n of them. -/
structure SetD (D : DataW Unit) (f : Int → Bool) (n : Nat) : Prop where
  tidy : Tidy D
  at_ : ∀ i : Int, D.atKey (.int .i64 i) (.lit (.bool false)) = .lit (.bool (f i))
  has_ : ∀ i : Int, Go.Maps.has D (.int .i64 i) = f i
  size_ : Go.Maps.size D = n
theorem SetD.empty : SetD (.map []) (fun _ => false) 0 := ⟨tidy_empty, fun _ => rfl, fun _ => rfl, rfl⟩
theorem SetD.congr {D : DataW Unit} {f g : Int → Bool} {n m : Nat} (h : SetD D f n) (hf : ∀ i, f i = g i) (hn : n = m) : SetD D g m :=
  ⟨h.tidy, fun i => by rw [h.at_, hf], fun i => by rw [h.has_, hf], by rw [h.size_, hn]⟩
theorem SetD.put {D : DataW Unit} {f : Int → Bool} {n : Nat} (h : SetD D f n) (j : Int) (hj : f j = false) : SetD (D.put (.int .i64 j) (.lit (.bool true))) (fun i => f i || decide (i = j)) (n + 1) := by
  have hk : WideAt.IsKeyLit (.int .i64 j) := trivial
  refine ⟨h.tidy.put hk _, fun i => ?_, fun i => ?_, ?_⟩
  · by_cases e : i = j
    · subst e
      rw [atKey_put_same h.tidy.isMap hk]; simp
    · rw [atKey_put_other (fun e2 => e (by cases e2; rfl)), h.at_]; simp [e]
  · by_cases e : i = j
    · subst e
      rw [has_put_same h.tidy.isMap hk]; simp
    · rw [has_put_other (fun e2 => e (by cases e2; rfl)), h.has_]; simp [e]
  · rw [size_put h.tidy, h.has_, hj, h.size_]; rfl
theorem SetD.del {D : DataW Unit} {f : Int → Bool} {n : Nat} (h : SetD D f n) (j : Int) : SetD (D.del (.int .i64 j)) (fun i => f i && !decide (i = j)) (n - if f j then 1 else 0) := by
  refine ⟨h.tidy.del _, fun i => ?_, fun i => ?_, ?_⟩
  · by_cases e : i = j
    · subst e
      rw [atKey_del_same]; simp
    · rw [atKey_del_other (fun e2 => e (by cases e2; rfl)), h.at_]; simp [e]
  · by_cases e : i = j
    · subst e
      rw [has_del_same]; simp
    · rw [has_del_other (fun e2 => e (by cases e2; rfl)), h.has_]; simp [e]
  · have := size_del (k := .int .i64 j) h.tidy
    rw [h.has_, h.size_] at this
    omega
end Go.Proofs.YtdkmhaghnfhajaaGreat
/- Mb -/
set_option linter.unusedVariables false
namespace Go.Proofs.YtdkmhaghnfhajaaGreat
open Go.RowKit Go.Maps

theorem mem_hits {n : Nat} {f : Nat → Int} {b x : Int} : x ∈ hits n f b ↔ (0 ≤ x ∧ x < n) ∧ f x.toNat = b := by
  constructor
  · intro h
    obtain ⟨i, hi, rfl, e⟩ := hits_mem h
    exact ⟨by omega, by simpa using e⟩
  · rintro ⟨⟨h0, h1⟩, e⟩
    have := hits_in (f := f) (n := n) (i := x.toNat) (by omega)
    rw [e] at this
    rwa [Int.toNat_of_nonneg h0] at this
theorem hits_rise (n : Nat) (f : Nat → Int) (b : Int) : (hits n f b).Pairwise (· < ·) := picks_rise n fun i => f i == b
theorem take_one {L : List Int} {k : Nat} (hk : k < L.length) : L.take (k + 1) = L.take k ++ [L.getD k 0] := by
  rw [List.take_add_one]
  simp [List.getD, hk]
theorem not_taken {L : List Int} (hp : L.Pairwise (· < ·)) {k : Nat} (hk : k < L.length) : L.getD k 0 ∉ L.take k := by
  intro hm
  have e := take_one hk
  have h2 : (L.take (k + 1)).Pairwise (· < ·) := hp.sublist (List.take_sublist _ _)
  rw [e, List.pairwise_append] at h2
  have := h2.2.2 _ hm _ (List.mem_singleton.2 rfl)
  omega
theorem SetD.one {D : DataW Unit} {L : List Int} (hp : L.Pairwise (· < ·)) {k : Nat} (hk : k < L.length) (h : SetD D (fun i => decide (i ∈ L.take k)) k) :
    SetD (D.put (.int .i64 (L.getD k 0)) (.lit (.bool true))) (fun i => decide (i ∈ L.take (k + 1))) (k + 1) := by
  refine (h.put (L.getD k 0) (by simpa using not_taken hp hk)).congr (fun i => ?_) rfl
  rw [take_one hk]
  simp [List.mem_append]

def leftQ (d : PlanD) (s : StD) (g : Int) (k i : Nat) : Bool := decide (d.x0 (i * 4) = g) && (decide (k ≤ i) || decide ((podA s.pods i).1 = 0))
def leftF (d : PlanD) (s : StD) (g : Int) (k : Nat) (i : Int) : Bool := (decide (0 ≤ i) && decide (i < d.n0)) && leftQ d s g k i.toNat
def leftN (d : PlanD) (s : StD) (g : Int) (k : Nat) : Nat := (List.range d.n0).countP (leftQ d s g k)
theorem left_start {D : DataW Unit} {d : PlanD} {s : StD} {g : Int} {L : List Int} (hL : L = hits d.n0 (fun i => d.x0 (i * 4)) g) (h : SetD D (fun i => decide (i ∈ L.take L.length)) L.length) : SetD D (leftF d s g 0) (leftN d s g 0) := by
  subst hL
  refine h.congr (fun i => ?_) ?_
  · rw [List.take_length]
    unfold leftF leftQ
    rw [Bool.eq_iff_iff]
    simp [mem_hits]
  · unfold leftN leftQ
    simp [hits, List.countP_eq_length_filter, BEq.beq]
theorem leftQ_next {d : PlanD} {s : StD} {g : Int} {k i : Nat} (h : i = k → (podA s.pods k).1 = 0) : leftQ d s g k i = leftQ d s g (k + 1) i := by
  unfold leftQ
  by_cases e : i = k
  · subst e
    simp [h rfl]
  · have : (k ≤ i) ↔ (k + 1 ≤ i) := by omega
    simp only [this]
theorem left_stay {D : DataW Unit} {d : PlanD} {s : StD} {g : Int} {k : Nat} (h : SetD D (leftF d s g k) (leftN d s g k)) (hr : (podA s.pods k).1 = 0) : SetD D (leftF d s g (k + 1)) (leftN d s g (k + 1)) := by
  have e : leftQ d s g k = leftQ d s g (k + 1) := funext fun i => leftQ_next fun _ => hr
  refine h.congr (fun i => ?_) ?_
  · unfold leftF; rw [e]
  · unfold leftN; rw [e]
theorem left_drop {D : DataW Unit} {d : PlanD} {s : StD} {g : Int} {k : Nat} (h : SetD D (leftF d s g k) (leftN d s g k)) (hk : k < d.n0) (hr : (podA s.pods k).1 ≠ 0) : SetD (D.del (.int .i64 k)) (leftF d s g (k + 1)) (leftN d s g (k + 1)) := by
  have h0 : leftQ d s g (k + 1) k = false := by
    unfold leftQ
    have : ¬ (k + 1 ≤ k) := by omega
    simp [this, hr]
  refine (h.del k).congr (fun i => ?_) ?_
  · unfold leftF
    by_cases e : i = (k : Int)
    · subst e
      rw [Int.toNat_natCast, h0]
      simp
    · by_cases e2 : 0 ≤ i
      · rw [leftQ_next (k := k) (i := i.toNat) (fun e3 => absurd (by omega) e)]
        simp [e]
      · simp [e2]
  · have hF : leftF d s g k k = leftQ d s g k k := by
      unfold leftF
      rw [Int.toNat_natCast]
      have : (k : Int) < d.n0 := by omega
      simp [this]
    rw [hF]
    unfold leftN
    cases hq : leftQ d s g k k
    · have e : ∀ i, leftQ d s g k i = leftQ d s g (k + 1) i := fun i => by
        by_cases e : i = k
        · rw [e, hq, h0]
        · exact leftQ_next fun e2 => absurd e2 e
      rw [show leftQ d s g k = leftQ d s g (k + 1) from funext e]
      simp
    · have := count_flip hq h0 (fun j hj => leftQ_next fun e2 => absurd e2 hj) d.n0
      rw [if_pos hk] at this
      rw [this]
      simp
theorem left_end {D : DataW Unit} {d : PlanD} {s : StD} {g : Int} (h : SetD D (leftF d s g d.n0) (leftN d s g d.n0)) : (∀ i : Nat, i < d.n0 → D.atKey (.int .i64 i) (.lit (.bool false)) = .lit (.bool (hP d s g i))) ∧ (Go.Maps.size D : Int) = healthyN d s g := by
  have e : ∀ i, i < d.n0 → leftQ d s g d.n0 i = hP d s g i := fun i hi => by
    unfold leftQ hP
    have : ¬ (d.n0 ≤ i) := by omega
    simp [this]
  refine ⟨fun i hi => ?_, ?_⟩
  · rw [h.at_]
    unfold leftF
    rw [Int.toNat_natCast, e i hi]
    have : (i : Int) < d.n0 := by omega
    simp [this]
  · rw [h.size_, healthyN_count]
    unfold leftN
    congr 1
    exact List.countP_congr fun i hi => by rw [e i (List.mem_range.1 hi)]
end Go.Proofs.YtdkmhaghnfhajaaGreat
/- Mc -/
set_option linter.unusedVariables false
namespace Go.Proofs.YtdkmhaghnfhajaaGreat
open Go.RowKit Go.Maps

theorem law64 : Keyed Tryz.prog 2 := int_keyed Tryz.underlying2
theorem zero_bool (w : World) : (zeroValue 4).run Tryz.prog w = .ok (.bool false) w := by kernel_rfl
theorem Keeps.of_grownM {w w' : World} {b : Nat} (h : w.grownBy w' (some b)) : Keeps (fun x => x = b) w w' := by
  obtain ⟨h1, h2, h3, h4, h5⟩ := h
  exact ⟨h1, h2, h3, h4, fun i hi hn => h5 i hi (fun e => hn (by cases e; rfl))⟩
theorem Two.keepB {w w1 w2 : World} {cs os : Array Value} {b : Nat} (h : Two w w1 cs os) (hg : w1.grownBy w2 (some b)) (hb : w.heap.size + 2 ≤ b) : Two w w2 cs os :=
  ⟨h.A.keeps (Keeps.of_grownM hg) (by intro x hx; omega) (by omega), h.O.keeps (Keeps.of_grownM hg) (by intro x hx; omega) (by omega)⟩
/-- What leftIn answers: a map of the call's own. -/
def LeftIn (w : World) (d : PlanD) (s : StD) (g : Int) (e : Ending) (w' : World) : Prop :=
  ∃ B n D, e = .returned (.map (some B)) ∧ w'.ownsMap Tryz.prog 2 (plainElem (H := Unit) Tryz.prog 4) B n D ∧ (∀ i : Nat, i < d.n0 → D.atKey (.int .i64 i) (.lit (.bool false)) = .lit (.bool (hP d s g i))) ∧
    (Go.Maps.size D : Int) = healthyN d s g ∧ Below w.heap.size w w'

set_option maxRecDepth 100000 in
set_option maxHeartbeats 4000000 in
theorem implLeftIn_any (pv sv : Value) (d : PlanD) (s : StD) (g : Int) (w : World) (hp : IsPlan w w.heap.size pv d) (hs : IsSt w w.heap.size sv s) (hok : StOk d s) :
    Calls Tryz.prog 55 #[pv, sv, .int .i64 g] w (LeftIn w d s g) := by
  have HP := Lib.hid hp
  have HS := Lib.hid hs
  have OK := Lib.hid hok
  have HL := Lib.hid (planOk_lock hok.plan)
  obtain ⟨⟨P0, P1, P2, P3, k0, k1, k2, k3, rfl, -, -, -, -⟩, b0, b1, b2, b3⟩ := hp
  obtain ⟨⟨A0, A1, A2, A3, c0, c1, c2, c3, rfl, t0, -, -, -⟩, f0, f1, f2, f3⟩ := hs
  have R0 := Lib.hid t0
  clear t0 hok
  unfold maxLen at b0 b1 b2 b3 f0 f1 f2 f3
  have T0 := Two.start w (planC P0 P1 P2 P3 d.n0 k0 d.n1 k1 d.n2 k2 d.n3 k3 d.l d.p d.t) (stC A0 A1 A2 A3 s.pods.length c0 s.mnts.length c1 s.devs.length c2 s.lks.length c3 s.ph s.co s.ck s.bo s.ba s.lb s.gd s.pr) 29 38
  have hmm := @run_makeMap Tryz.prog
  go_enter Tryz.func55, Tryz.ntmps55
  go_wp2_with fail
  have T1 := T0.step ((Below.refl _ _).alloc (Nat.le_refl _) (.map #[] 0))
  have M1 := World.ownsMap_made ((w.alloc (.cells (planC P0 P1 P2 P3 d.n0 k0 d.n1 k1 d.n2 k2 d.n3 k3 d.l d.p d.t) 29)).alloc (.cells (stC A0 A1 A2 A3 s.pods.length c0 s.mnts.length c1 s.devs.length c2 s.lks.length c3 s.ph s.co s.ck s.bo s.ba s.lb s.gd s.pr) 38)) Tryz.prog 2 (plainElem (H := Unit) Tryz.prog 4)
  simp only [heap_size_alloc_] at M1
  refine (implPodsIn_any _ d g _ ((HP.out.below T1.A.K (Nat.le_refl _)).more T1.A.K.size) (by have := HL.out; omega)).mono ?_
  rintro e w2 ⟨v, rfl, O, hb⟩
  rw [found_yes OK.out.plan] at O
  obtain ⟨L, hL⟩ : ∃ L, hits d.n0 (fun i => d.x0 (i * 4)) g = L := ⟨_, rfl⟩
  rw [hL] at O
  obtain ⟨Q, c, r0, rfl, hQ, hB, hz, R⟩ := open_list O
  have T2 := T1.step hb
  have M2 := M1.kept (row := none) ⟨hb.os, hb.tape, hb.output, hb.size, fun k hk _ => hb.block k hk⟩ (by simp)
  have HQ := Lib.hid hQ
  have HR := Lib.hid R
  have HB := Lib.hid hB
  have HLn : Hid (L.length ≤ 12) := Lib.hid (by rw [← hL]; have := hits_le d.n0 (fun i => d.x0 (i * 4)) g; have := HL.out; omega)
  have HLR : Hid (L.Pairwise (· < ·)) := Lib.hid (by rw [← hL]; exact hits_rise _ _ _)
  have HLW : Hid (∀ k, k < L.length → (Lit.int .i64 (L.getD k 0)).wf = true) := Lib.hid fun k hk => by
    have hm : L.getD k 0 ∈ hits d.n0 (fun i => d.x0 (i * 4)) g := by
      rw [hL]
      simp [List.getD, hk]
    have := mem_hits.1 hm
    have := HL.out
    exact WalkArith.wf_i64 (by omega)
  have HLL := Lib.hid hL.symm
  simp only [heap_size_alloc_] at hB
  have HB := Lib.hid hB
  have HZ := Lib.hid hz
  have HR := Lib.hid R
  clear hL hQ hB hz R O M1 T1 T0 hb
  have hln := HLn.out
  go_wp2_with fail
  go_loopw [17] (fun i wr => ∃ (k : Nat) (D : DataW Unit), k ≤ L.length ∧ i = .int .i64 k ∧ wr.ownsMap Tryz.prog 2 (plainElem Tryz.prog 4) (w.heap.size + 1 + 1) k D ∧ SetD D (fun i => decide (i ∈ L.take k)) k ∧ Keeps (fun x => x = w.heap.size + 1 + 1) w2 wr ∧ Two w wr (planC P0 P1 P2 P3 d.n0 k0 d.n1 k1 d.n2 k2 d.n3 k3 d.l d.p d.t) (stC A0 A1 A2 A3 s.pods.length c0 s.mnts.length c1 s.devs.length c2 s.lks.length c3 s.ph s.co s.ck s.bo s.ba s.lb s.gd s.pr)) (fun i _ => L.length - (intOf i).toNat)
  case atStart => exact ⟨0, _, Nat.zero_le _, rfl, M2, SetD.empty.congr (fun i => by simp) rfl, Keeps.refl _ _, T2⟩
  case round =>
    clear M2 T2
    obtain ⟨k, D, hk, rfl, M, hS, hK, T⟩ := hrel
    have HM := Lib.hid M
    have HSD := Lib.hid hS
    have HK := Lib.hid hK
    clear M hS hK
    have hC := T.A.C
    have hD := T.O.C
    by_cases hlt : k < L.length
    · have e0 := HQ.out (by omega)
      subst e0
      have q0 := ((HR.out.goK HZ.out HK.out (fun hn e => by have := HB.out; omega)) k hlt).1
      have hkey : keyOf Tryz.prog 2 (.int .i64 (L.getD k 0)) = some (.int .i64 (L.getD k 0)) := keyOf_int_mk Tryz.underlying2 (HLW.out k hlt)
      have HKEY := Lib.hid hkey
      have HSN := Lib.hid (HSD.out.one HLR.out hlt)
      clear hkey
      generalize L.getD k 0 = x at *
      go_wp2_with (first
        | (at_mapUpdate; refine wpList_mapUpdate_own _ rfl _ _ _ 97 rfl 2 4 law64 Tryz.underlying97 _ (w.heap.size + 1 + 1) k _ rfl HM.out (by unfold maxLen; omega) _ _ _ rfl rfl HKEY.out _ [] (plainElem_bool Tryz.underlying4 true) ?_; intro w1 hown1 hgrow1))
      refine ⟨⟨k + 1, _, by omega, by go_num, hown1, HSN.out, HK.out.trans (Keeps.of_grownM hgrow1), T.keepB hgrow1 (by omega)⟩, by simp [intOf]; omega⟩
    · obtain rfl : k = L.length := by omega
      have HST := Lib.hid (left_start (s := s) HLL.out HSD.out)
      clear HSD HK HR HQ HZ HB
      obtain ⟨hp, hnp⟩ : s.pods.length ≤ 12 ∧ s.pods.length = d.n0 := by have := OK.out.np; have := HL.out; omega
      have HNP := Lib.hid hnp
      clear hnp
      go_wp2_with fail
      go_loopw [27] (fun i wr => ∃ (k : Nat) (D : DataW Unit), k ≤ s.pods.length ∧ i = .int .i64 k ∧ wr.ownsMap Tryz.prog 2 (plainElem Tryz.prog 4) (w.heap.size + 1 + 1) L.length D ∧ SetD D (leftF d s g k) (leftN d s g k) ∧ Two w wr (planC P0 P1 P2 P3 d.n0 k0 d.n1 k1 d.n2 k2 d.n3 k3 d.l d.p d.t) (stC A0 A1 A2 A3 s.pods.length c0 s.mnts.length c1 s.devs.length c2 s.lks.length c3 s.ph s.co s.ck s.bo s.ba s.lb s.gd s.pr)) (fun i _ => s.pods.length - (intOf i).toNat)
      case atStart => exact ⟨0, _, Nat.zero_le _, rfl, HM.out, HST.out, T⟩
      case round =>
        clear HM HST T hC hD
        obtain ⟨k, D, hk, rfl, M, hS, T⟩ := hrel
        have HM := Lib.hid M
        have HSD := Lib.hid hS
        clear M hS
        have hC := T.A.C
        have hD := T.O.C
        by_cases hlt : k < s.pods.length
        · obtain ⟨b, off, rfl, hb, hc⟩ := (R0.out.below T.A.K (Nat.le_refl _)).cell hlt
          have hp := podCs_at s.pods (i := k) hlt
          have q0 := (hc 0 (by decide)).trans hp.1
          have q1 := (hc 1 (by decide)).trans hp.2
          rw [Nat.add_zero] at q0
          clear hc hp
          have hk0 : k < d.n0 := by have := HNP.out; omega
          have hkey : keyOf Tryz.prog 2 (.int .i64 k) = some (.int .i64 k) := keyOf_int_mk Tryz.underlying2 (WalkArith.wf_i64 (by omega))
          have HKEY := Lib.hid hkey
          clear hkey
          by_cases hx : (podA s.pods k).1 = 0
          · have HN := Lib.hid (left_stay HSD.out hx)
            generalize podA s.pods k = r at q0 q1 hx
            obtain ⟨x, y⟩ := r
            dsimp only at q0 q1 hx
            subst hx
            go_wp2_with fail
            refine ⟨⟨k + 1, D, by omega, by go_num, HM.out.alloc _, HN.out, T.step ((Below.refl _ _).alloc (Nat.le_refl _) _)⟩, by simp [intOf]; omega⟩
          · have HN := Lib.hid (left_drop HSD.out hk0 hx)
            generalize podA s.pods k = r at q0 q1 hx
            obtain ⟨x, y⟩ := r
            dsimp only at q0 q1 hx
            go_wp2_with (first
              | (at_delete; refine wpList_delete_own _ rfl _ _ 97 2 rfl 4 law64 Tryz.underlying97 _ (w.heap.size + 1 + 1) L.length D rfl (HM.out.alloc _) _ _ rfl HKEY.out ?_; intro w1 hown1 hturn1))
            refine ⟨⟨k + 1, _, by omega, by go_num, hown1, HN.out, (T.step ((Below.refl _ _).alloc (Nat.le_refl _) _)).keepB hturn1.grown (by omega)⟩, by simp [intOf]; omega⟩
        · obtain rfl : k = s.pods.length := by omega
          have HE := Lib.hid (left_end (by have := HSD.out; rw [HNP.out] at this; exact this))
          clear HSD
          go_wp2_with fail
          go_ret
          exact ⟨_, _, D, rfl, HM.out, HE.out.1, HE.out.2, T.A.K⟩

set_option maxRecDepth 100000 in
set_option maxHeartbeats 4000000 in
theorem implHealthyIn_any (pv sv : Value) (d : PlanD) (s : StD) (g : Int) (w : World) (hp : IsPlan w w.heap.size pv d) (hs : IsSt w w.heap.size sv s) :
    Calls Tryz.prog 25 #[pv, sv, .int .i64 g] w fun e w' => e = .returned (.int .i64 (if stOkB d s && inB g 0 (d.n1 - 1) then healthyN d s g else -1)) ∧ Below w.heap.size w w' := by
  have HP := Lib.hid hp
  have HS := Lib.hid hs
  obtain ⟨⟨P0, P1, P2, P3, k0, k1, k2, k3, rfl, -, -, -, -⟩, b0, b1, b2, b3⟩ := hp
  obtain ⟨⟨A0, A1, A2, A3, c0, c1, c2, c3, rfl, -, -, -, -⟩, f0, f1, f2, f3⟩ := hs
  unfold maxLen at b0 b1 b2 b3 f0 f1 f2 f3
  have T0 := Two.start w (planC P0 P1 P2 P3 d.n0 k0 d.n1 k1 d.n2 k2 d.n3 k3 d.l d.p d.t) (stC A0 A1 A2 A3 s.pods.length c0 s.mnts.length c1 s.devs.length c2 s.lks.length c3 s.ph s.co s.ck s.bo s.ba s.lb s.gd s.pr) 29 38
  obtain ⟨ans, hans⟩ : ∃ ans, (if stOkB d s && inB g 0 (d.n1 - 1) then healthyN d s g else -1) = ans := ⟨_, rfl⟩
  rw [hans]
  have HANS := Lib.hid hans
  clear hans
  go_enter Tryz.func25, Tryz.ntmps25
  go_wp2_with fail
  refine (implStateOk_any _ _ d s _ ((HP.out.below T0.A.K (Nat.le_refl _)).more T0.A.K.size) ((HS.out.below T0.A.K (Nat.le_refl _)).more T0.A.K.size)).mono ?_
  rintro e w1 ⟨rfl, hb⟩
  have T1 := T0.step hb
  have hC := T1.A.C
  have hD := T1.O.C
  clear hb T0
  cases hok : stOkB d s
  · have OKB := Lib.hid hok
    clear hok
    go_wp2
    all_goals (go_ret; exact ⟨ret_int (by rw [← HANS.out, OKB.out]; rfl), T1.A.K⟩)
  · have OK := Lib.hid (stOkB_iff.1 hok)
    have OKB := Lib.hid hok
    clear hok
    go_wp2_with fail
    refine (isIndex_any _ _ _).mono ?_
    rintro e w2 ⟨rfl, rfl⟩
    cases hin : inB g 0 (d.n1 - 1)
    · have HIN := Lib.hid hin
      clear hin
      go_wp2
      all_goals (go_ret; exact ⟨ret_int (by rw [← HANS.out, OKB.out, HIN.out]; rfl), T1.A.K⟩)
    · have HIN := Lib.hid hin
      clear hin
      go_wp2_with fail
      refine (implLeftIn_any _ _ d s g _ ((HP.out.below T1.A.K (Nat.le_refl _)).more T1.A.K.size) ((HS.out.below T1.A.K (Nat.le_refl _)).more T1.A.K.size) OK.out).mono ?_
      rintro e w3 ⟨B, n, D, rfl, hown, -, hsz, hb⟩
      have T3 := T1.step hb
      have HSZ := Lib.hid hsz
      have HO := Lib.hid hown
      clear hb T1 hC hD hown hsz
      go_wp2_with (at_len; refine wpList_len_own _ rfl _ 97 rfl 2 4 Tryz.underlying97 _ B n D rfl HO.out ?_)
      go_ret
      exact ⟨ret_int (by rw [← HANS.out, OKB.out, HIN.out, HSZ.out]; rfl), T3.A.K⟩

set_option maxRecDepth 100000 in
set_option maxHeartbeats 4000000 in
theorem implMayEvict_any (pv sv : Value) (d : PlanD) (s : StD) (a : Int) (w : World) (hp : IsPlan w w.heap.size pv d) (hs : IsSt w w.heap.size sv s) :
    Calls Tryz.prog 22 #[pv, sv, .int .i64 a] w fun e w' => e = .returned (.bool (stOkB d s && mayEvictB d s a)) ∧ Below w.heap.size w w' := by
  have HP := Lib.hid hp
  have HS := Lib.hid hs
  obtain ⟨⟨P0, P1, P2, P3, k0, k1, k2, k3, rfl, s0, s1, -, -⟩, b0, b1, b2, b3⟩ := hp
  obtain ⟨⟨A0, A1, A2, A3, c0, c1, c2, c3, rfl, -, -, -, -⟩, f0, f1, f2, f3⟩ := hs
  have S0 := Lib.hid s0
  have S1 := Lib.hid s1
  unfold maxLen at b0 b1 b2 b3 f0 f1 f2 f3
  clear s0 s1
  have T0 := Two.start w (planC P0 P1 P2 P3 d.n0 k0 d.n1 k1 d.n2 k2 d.n3 k3 d.l d.p d.t) (stC A0 A1 A2 A3 s.pods.length c0 s.mnts.length c1 s.devs.length c2 s.lks.length c3 s.ph s.co s.ck s.bo s.ba s.lb s.gd s.pr) 29 38
  obtain ⟨ans, hans⟩ : ∃ ans, (stOkB d s && mayEvictB d s a) = ans := ⟨_, rfl⟩
  rw [hans]
  have HANS := Lib.hid hans
  clear hans
  go_enter Tryz.func22, Tryz.ntmps22
  go_wp2_with fail
  refine (implStateOk_any _ _ d s _ ((HP.out.below T0.A.K (Nat.le_refl _)).more T0.A.K.size) ((HS.out.below T0.A.K (Nat.le_refl _)).more T0.A.K.size)).mono ?_
  rintro e w1 ⟨rfl, hb⟩
  have T1 := T0.step hb
  have hC := T1.A.C
  have hD := T1.O.C
  clear hb T0
  cases hok : stOkB d s
  · have OKB := Lib.hid hok
    clear hok
    go_wp2
    all_goals (go_ret; exact ⟨ret_bool (by rw [← HANS.out, OKB.out]; rfl), T1.A.K⟩)
  · have OK := Lib.hid (stOkB_iff.1 hok)
    have OKB := Lib.hid hok
    clear hok
    cases hph : (s.ph != 2)
    case true =>
      have HPH : Hid (¬ s.ph = 2) := Lib.hid (by simpa using hph)
      go_wp2
      all_goals (go_ret; exact ⟨ret_bool (by rw [← HANS.out, OKB.out]; simp [mayEvictB, HPH.out]), T1.A.K⟩)
    case false =>
      have HPH : Hid (s.ph = 2) := Lib.hid (by simpa using hph)
      go_wp2_with fail
      refine (isIndex_any _ _ _).mono ?_
      rintro e w2 ⟨rfl, rfl⟩
      cases hin : inB a 0 (d.n0 - 1)
      · have HIN := Lib.hid hin
        clear hin
        go_wp2
        all_goals (go_ret; exact ⟨ret_bool (by rw [← HANS.out, OKB.out]; simp [mayEvictB, HIN.out]), T1.A.K⟩)
      · have HIN := Lib.hid hin
        obtain ⟨i, rfl, hi⟩ := index_nat (a := a) (n := d.n0) (by rw [hin]; decide)
        clear hin hph
        obtain ⟨m, hm, hml⟩ := pod_group OK.out.plan hi
        have HANS2 : Hid (ans = (hP d s m i && decide (d.x1 m < healthyN d s m))) := Lib.hid (by
          rw [← HANS.out, OKB.out, mayEvictB, HIN.out, HPH.out, Int.toNat_natCast, hm, Int.toNat_natCast]
          simp [podAt, podA, hP, hm])
        obtain ⟨b, off, rfl, hb, q0, -, -, -⟩ := (S0.out.own T1.A).cell4 hi
        rw [hm] at q0
        clear hm
        go_wp2_with fail
        refine (implLeftIn_any _ _ d s m _ ((HP.out.below T1.A.K (Nat.le_refl _)).more T1.A.K.size) ((HS.out.below T1.A.K (Nat.le_refl _)).more T1.A.K.size) OK.out).mono ?_
        rintro e w3 ⟨B, n, D, rfl, hown, hat, hsz, hb3⟩
        have T3 := T1.step hb3
        obtain ⟨b1_, off1, rfl, hb1, r0⟩ := (S1.out.below T3.A.K (Nat.le_refl _)).cell1 hml
        have hi12 : i < 1000 := by have := planOk_lock OK.out.plan; omega
        have hkey : keyOf Tryz.prog 2 (.int .i64 i) = some (.int .i64 i) := keyOf_int_mk Tryz.underlying2 (WalkArith.wf_i64 (by omega))
        have hlk : ∀ q, (Instr.lookup 97 (.map (some B)) (.int .i64 i) false).run Tryz.prog (w3.drewN q) = .ok (.bool (hP d s m i)) (w3.drewN q) := fun q => by
          have hown' : (w3.drewN q).ownsMap Tryz.prog 2 (plainElem (H := Unit) Tryz.prog 4) B n D := hown.kept (row := none) ⟨(below_drewN (Below.refl w3.heap.size w3) q).os, (below_drewN (Below.refl w3.heap.size w3) q).tape, (below_drewN (Below.refl w3.heap.size w3) q).output, (below_drewN (Below.refl w3.heap.size w3) q).size, fun k hk _ => (below_drewN (Below.refl w3.heap.size w3) q).block k hk⟩ (by simp)
          obtain ⟨v, ps, hrun, hv⟩ := hown'.lookup law64 Tryz.underlying97 (zero_bool _) (plainElem_bool Tryz.underlying4 false) hkey
          obtain ⟨x, rfl, hx⟩ := plainElem_bool_is Tryz.underlying4 hv
          rw [hat i hi] at hx
          simp only [Prod.mk.injEq, DataW.lit.injEq, Lit.bool.injEq] at hx
          rw [hx.1]
          exact hrun
        have hlen : ∀ q ty, (Builtin.len_ #[97] ty #[.map (some B)]).run Tryz.prog (w3.drewN q) = .ok (.int .i64 (healthyN d s m)) (w3.drewN q) := fun q ty => by
          have hown' : (w3.drewN q).ownsMap Tryz.prog 2 (plainElem (H := Unit) Tryz.prog 4) B n D := hown.kept (row := none) ⟨(below_drewN (Below.refl w3.heap.size w3) q).os, (below_drewN (Below.refl w3.heap.size w3) q).tape, (below_drewN (Below.refl w3.heap.size w3) q).output, (below_drewN (Below.refl w3.heap.size w3) q).size, fun k hk _ => (below_drewN (Below.refl w3.heap.size w3) q).block k hk⟩ (by simp)
          rw [← hsz]
          exact hown'.len Tryz.underlying97 ty
        clear hown hat hsz hkey hb3 T1 hC hD q0 hb
        have hC := T3.A.C
        have hD := T3.O.C
        generalize healthyN d s m = hn at *
        cases hp : hP d s m i
        · rw [hp] at hlk HANS2
          go_wp2_with fail
          go_quiet (fail)
          go_wp2
          all_goals (go_ret; exact ⟨ret_bool (by rw [HANS2.out]; rfl), below_drewN T3.A.K _⟩)
        · rw [hp] at hlk HANS2
          go_wp2_with fail
          go_quiet (fail)
          go_wp2
          all_goals (go_ret; exact ⟨ret_bool (by rw [HANS2.out]; simp), below_drewN T3.A.K _⟩)
end Go.Proofs.YtdkmhaghnfhajaaGreat
/- Xl -/
set_option linter.unusedVariables false
namespace Go.Proofs.YtdkmhaghnfhajaaGreat
open Go.RowKit

end Go.Proofs.YtdkmhaghnfhajaaGreat
