/-
  A cursor stays where a box that holds no bytes is written, also an older one; whole rows stored.
-/
import Derived.Test.YtkefbmbjkijilaaGreatDoorMZ7
import Derived.Test.YtkefbmbjkijilaaGreatDoorMZ6
import Derived.Deep.AppendLies
import Derived.StillTailTactics
import Derived.Laws.AppendOwnNone
import Derived.RangeFuncBox
import Derived.RangeFuncBound
import Derived.RangeFuncLeaves
import Derived.Shelf.Abstract
import Derived.WalkKit
import Derived.OwnWalkIn
import Derived.TacticsInMore
import Derived.LoopNIn
import Derived.LoopIn
import Derived.Maps.AppendAt
import Derived.RangeFuncNested
import Derived.RangeFuncCalls
import Derived.Shelf.RegionOpen
import Derived.Test.YtkefbmbjkijilaaGreatDoorMZ0
import Derived.Deep.RegionLaw
import Derived.Deep.RegionHeld3
import Derived.Laws.Tables
/- Ek -/
set_option linter.unusedVariables false
namespace Go.Proofs.YtkefbmbjkijilaaGreatDoor
open Go.RowKit

theorem OB.two {w : World} {B : Nat} (hB : B ≤ w.heap.size) {x y : Nat} (hx : x < 256) (hy : y < 256) : OB (w.alloc (.cells #[.int .u8 x, .int .u8 y] 5)) B (.slice (some ⟨w.heap.size, 0, none⟩) 2 2) [x, y] := by
  refine ⟨⟨rfl, .inr ⟨w.heap.size, 2, _, rfl, hB, heap_alloc_new w _, Nat.le_refl _, by unfold maxLen; decide, rfl, rfl⟩⟩, fun z hz => ?_⟩
  rcases List.mem_cons.1 hz with rfl | hz
  · exact hx
  · obtain rfl : z = y := by simpa using hz
    exact hy
/-- What Framed answers. -/
def framedD (l : List RecD) : List Nat := if writeB l then frameN (wroteN l) else []
theorem framedD_yes {l : List RecD} (h : writeB l = true) : framedD l = frameN (wroteN l) := if_pos h
theorem framedD_no {l : List RecD} (h : writeB l = false) : framedD l = [] := if_neg (by rw [h]; decide)
def FramedD (l : List RecD) (w : World) (e : Ending) (w' : World) : Prop :=
  ∃ v, e = .returned (.tuple #[v, .bool (writeB l)]) ∧ OB w' w.heap.size v (framedD l) ∧ Below w.heap.size w w'
theorem wroteN_pos {l : List RecD} (h : writeB l = true) : 0 < (wroteN l).length := by
  rw [wroteN_yes h, List.length_append]
  have := putN_pos l.length
  omega
theorem news_bytes {w : World} {g : Nat} {L : List Nat} (hC : ∀ j, j < L.length → w.cell? ⟨g, j, none⟩ = some (.int .u8 (L.getD j 0 : Nat))) : ∀ j u, (L.map byteV)[j]? = some u → w.cell? ((⟨g, 0, none⟩ : Addr).add j) = some u := fun j u hu => by
  have hj : j < L.length := by
    have := (List.getElem?_eq_some_iff.1 hu).1
    simpa using this
  rw [byteV_get hj] at hu
  cases hu
  rw [add_zero_block]
  exact hC j hj
theorem one_bytes {L : List Nat} : ∀ u ∈ L.map byteV, u.oneCell' = true := fun u hu => by
  obtain ⟨z, _, rfl⟩ := List.mem_map.1 hu
  rfl
end Go.Proofs.YtkefbmbjkijilaaGreatDoor
/- El -/
set_option linter.unusedVariables false
namespace Go.Proofs.YtkefbmbjkijilaaGreatDoor
open Go.RowKit

/-- Is there a frame more, and room for it? -/
def withOk (b : List Nat) (l : List RecD) : Bool := writeB l && decide ((framesN b).2 + (framedD l).length ≤ 1200)
/-- The store with the frame; as it was where there is none. -/
def withD (b : List Nat) (l : List RecD) : List Nat := if withOk b l then b.take (framesN b).2 ++ framedD l else b
theorem withD_yes {b : List Nat} {l : List RecD} (h : withOk b l = true) : withD b l = b.take (framesN b).2 ++ framedD l := if_pos h
theorem withD_no {b : List Nat} {l : List RecD} (h : withOk b l = false) : withD b l = b := if_neg (by rw [h]; decide)
/-- What WithFrame answers. -/
def WithD (b : List Nat) (l : List RecD) (w : World) (e : Ending) (w' : World) : Prop :=
  ∃ v, e = .returned (.tuple #[v, .bool (withOk b l)]) ∧ OB w' w.heap.size v (withD b l) ∧ Below w.heap.size w w'
theorem framedD_len {l : List RecD} (h : writeB l = true) : (framedD l).length = 4 + (wroteN l).length := by rw [framedD_yes h, frameN_length]
theorem framedD_max (l : List RecD) : (framedD l).length ≤ 727 := by
  cases h : writeB l
  · rw [framedD_no h]; simp
  · rw [framedD_len h]
    have := wroteN_len l
    omega
end Go.Proofs.YtkefbmbjkijilaaGreatDoor
/- Eb -/
set_option linter.unusedVariables false
namespace Go.Proofs.YtkefbmbjkijilaaGreatDoor
open Go.RowKit

theorem info_recs : (Tryz.prog.info? 93).map (fun i => (i.zero, i.size, i.bytes)) = some (some (.slice none 0 0), 1, 24) := by kernel_rfl
def listAt (ls : List (List RecD)) (i : Nat) : List RecD := ls.getD i []
/-- A slice of the lists ls, lying below block B. -/
structure St (w : World) (B : Nat) (v : Value) (ls : List (List RecD)) : Prop where
  it : ∃ A c, v = .slice A ls.length c ∧ (0 < ls.length → ∃ b off, A = some ⟨b, off, none⟩ ∧ b < B ∧ ∀ i, i < ls.length → ∃ u, w.cell? ⟨b, off + i, none⟩ = some u ∧ Rt w B u (listAt ls i))
  len : ls.length ≤ maxLen
theorem St.below {w w' : World} {B B' : Nat} {v : Value} {ls : List (List RecD)} (h : St w B v ls) (hb : Below B' w w') (hB : B ≤ B') : St w' B v ls := by
  obtain ⟨⟨A, c, rfl, hc⟩, hl⟩ := h
  refine ⟨⟨A, c, rfl, fun hn => ?_⟩, hl⟩
  obtain ⟨b, off, rfl, hlt, hc⟩ := hc hn
  refine ⟨b, off, rfl, hlt, fun i hi => ?_⟩
  obtain ⟨u, hu, hr⟩ := hc i hi
  exact ⟨u, (hb.cell (p := ⟨b, off + i, none⟩) (by show b < B'; omega)).trans hu, hr.below hb hB⟩
theorem St.more {w : World} {B B' : Nat} {v : Value} {ls : List (List RecD)} (h : St w B v ls) (hB : B ≤ B') : St w B' v ls := by
  obtain ⟨⟨A, c, rfl, hc⟩, hl⟩ := h
  refine ⟨⟨A, c, rfl, fun hn => ?_⟩, hl⟩
  obtain ⟨b, off, rfl, hlt, hc⟩ := hc hn
  refine ⟨b, off, rfl, by omega, fun i hi => ?_⟩
  obtain ⟨u, hu, hr⟩ := hc i hi
  exact ⟨u, hu, hr.more hB⟩
theorem St.go {w w' : World} {v : Value} {ls : List (List RecD)} (h : St w w.heap.size v ls) (hb : Below w.heap.size w w') : St w' w'.heap.size v ls := (h.below hb (Nat.le_refl _)).more hb.size
theorem St.cell {w : World} {B : Nat} {A : Option Addr} {n c : Nat} {ls : List (List RecD)} (h : St w B (.slice A n c) ls) {i : Nat} (hi : i < ls.length) :
    ∃ b off u, A = some ⟨b, off, none⟩ ∧ b < B ∧ w.cell? ⟨b, off + i, none⟩ = some u ∧ Rt w B u (listAt ls i) := by
  obtain ⟨⟨A', c', hv, hc⟩, hl⟩ := h
  injection hv with h1 _ _
  subst h1
  obtain ⟨b, off, e, hlt, hc⟩ := hc (by omega)
  obtain ⟨u, hu, hr⟩ := hc i hi
  exact ⟨b, off, u, e, hlt, hu, hr⟩

/-- The slices vs hold the lists ls, in blocks from B to T, each beyond those ahead of it. -/
def Seg (w : World) : Nat → Nat → List Value → List (List RecD) → Prop
  | B, T, [], [] => B ≤ T
  | B, T, v :: vs, l :: ls => ∃ M, B ≤ M ∧ OR w B v l ∧ (∀ r, v.ownBlock = some r → r < M) ∧ Seg w M T vs ls
  | _, _, _, _ => False
theorem Seg.below {w w' : World} {T : Nat} (hb : Below w.heap.size w w') : ∀ {vs : List Value} {ls : List (List RecD)} {B : Nat}, Seg w B T vs ls → Seg w' B T vs ls
  | [], [], _, h => h
  | [], _ :: _, _, h => h.elim
  | _ :: _, [], _, h => h.elim
  | v :: vs, l :: ls, B, ⟨M, h1, h2, h3, h4⟩ => ⟨M, h1, h2.below hb, h3, Seg.below hb h4⟩
theorem Seg.base {w : World} {T : Nat} : ∀ {vs : List Value} {ls : List (List RecD)} {B B' : Nat}, B' ≤ B → Seg w B T vs ls → Seg w B' T vs ls
  | [], [], _, _, hB, h => Nat.le_trans hB h
  | [], _ :: _, _, _, _, h => h.elim
  | _ :: _, [], _, _, _, h => h.elim
  | v :: vs, l :: ls, B, B', hB, ⟨M, h1, h2, h3, h4⟩ => ⟨M, Nat.le_trans hB h1, h2.base hB, h3, h4⟩
theorem Seg.top {w : World} {T T' : Nat} (hT : T ≤ T') : ∀ {vs : List Value} {ls : List (List RecD)} {B : Nat}, Seg w B T vs ls → Seg w B T' vs ls
  | [], [], _, h => Nat.le_trans h hT
  | [], _ :: _, _, h => h.elim
  | _ :: _, [], _, h => h.elim
  | v :: vs, l :: ls, B, ⟨M, h1, h2, h3, h4⟩ => ⟨M, h1, h2, h3, Seg.top hT h4⟩
theorem Seg.len {w : World} {T : Nat} : ∀ {vs : List Value} {ls : List (List RecD)} {B : Nat}, Seg w B T vs ls → vs.length = ls.length
  | [], [], _, _ => rfl
  | [], _ :: _, _, h => h.elim
  | _ :: _, [], _, h => h.elim
  | v :: vs, l :: ls, B, ⟨M, h1, h2, h3, h4⟩ => by rw [List.length_cons, List.length_cons, Seg.len h4]
theorem Seg.snoc {w : World} {T T' : Nat} {v : Value} {l : List RecD} (hv : OR w T v l) (hT : T ≤ T') (ht : ∀ r, v.ownBlock = some r → r < T') :
    ∀ {vs : List Value} {ls : List (List RecD)} {B : Nat}, Seg w B T vs ls → Seg w B T' (vs ++ [v]) (ls ++ [l])
  | [], [], B, h => ⟨T', Nat.le_trans h hT, hv.base h, ht, Nat.le_refl _⟩
  | [], _ :: _, _, h => h.elim
  | _ :: _, [], _, h => h.elim
  | v :: vs, l :: ls, B, ⟨M, h1, h2, h3, h4⟩ => ⟨M, h1, h2, h3, Seg.snoc hv hT ht h4⟩
theorem Seg.at_ {w : World} {T : Nat} : ∀ {vs : List Value} {ls : List (List RecD)} {B i : Nat}, Seg w B T vs ls → i < ls.length → ∃ v, vs[i]? = some v ∧ OR w B v (listAt ls i)
  | [], [], _, _, _, hi => absurd hi (Nat.not_lt_zero _)
  | [], _ :: _, _, _, h, _ => h.elim
  | _ :: _, [], _, _, h, _ => h.elim
  | v :: vs, l :: ls, B, 0, ⟨M, h1, h2, h3, h4⟩, _ => ⟨v, rfl, h2⟩
  | v :: vs, l :: ls, B, i + 1, ⟨M, h1, h2, h3, h4⟩, hi => by
    obtain ⟨v, e, h⟩ := Seg.at_ h4 (i := i) (by simpa using hi)
    exact ⟨v, by simpa using e, by unfold listAt at h ⊢; simpa using h.base h1⟩
theorem Seg.lo {w : World} {T : Nat} : ∀ {vs : List Value} {ls : List (List RecD)} {B i : Nat} {v : Value} {r : Nat}, Seg w B T vs ls → vs[i]? = some v → v.ownBlock = some r → B ≤ r
  | [], [], _, _, _, _, _, hi, _ => by simp at hi
  | [], _ :: _, _, _, _, _, h, _, _ => h.elim
  | _ :: _, [], _, _, _, _, h, _, _ => h.elim
  | v :: vs, l :: ls, B, 0, v', r, ⟨M, h1, h2, h3, h4⟩, hi, hr => by
    obtain rfl : v = v' := by simpa using hi
    exact (h2.lt hr).1
  | v :: vs, l :: ls, B, i + 1, v', r, ⟨M, h1, h2, h3, h4⟩, hi, hr => Nat.le_trans h1 (Seg.lo h4 (i := i) (by simpa using hi) hr)
theorem Seg.apart {w : World} {T : Nat} : ∀ {vs : List Value} {ls : List (List RecD)} {B i j : Nat} {v v' : Value} {r r' : Nat}, Seg w B T vs ls → i < j → vs[i]? = some v → vs[j]? = some v' → v.ownBlock = some r → v'.ownBlock = some r' → r < r'
  | [], [], _, _, _, _, _, _, _, _, _, hi, _, _, _ => by simp at hi
  | [], _ :: _, _, _, _, _, _, _, _, h, _, _, _, _, _ => h.elim
  | _ :: _, [], _, _, _, _, _, _, _, h, _, _, _, _, _ => h.elim
  | v :: vs, l :: ls, B, i, 0, _, _, _, _, _, hij, _, _, _, _ => absurd hij (Nat.not_lt_zero _)
  | v :: vs, l :: ls, B, 0, j + 1, v1, v2, r, r', ⟨M, h1, h2, h3, h4⟩, _, hi, hj, hr, hr' => by
    obtain rfl : v = v1 := by simpa using hi
    exact Nat.lt_of_lt_of_le (h3 r hr) (Seg.lo h4 (i := j) (by simpa using hj) hr')
  | v :: vs, l :: ls, B, i + 1, j + 1, v1, v2, r, r', ⟨M, h1, h2, h3, h4⟩, hij, hi, hj, hr, hr' =>
    Seg.apart h4 (i := i) (j := j) (by omega) (by simpa using hi) (by simpa using hj) hr hr'

/-- A row of lists of the call's own, each in memory of its own. -/
def OS (w : World) (B : Nat) (v : Value) (ls : List (List RecD)) : Prop := ∃ vs, w.ownsRow B 93 1 v ls.length vs ∧ Seg w B w.heap.size vs ls
theorem OS.below {w w' : World} {B : Nat} {v : Value} {ls : List (List RecD)} (h : OS w B v ls) (hb : Below w.heap.size w w') : OS w' B v ls := by
  obtain ⟨vs, h1, h2⟩ := h
  exact ⟨vs, ownsRow_below h1 hb, (h2.below hb).top hb.size⟩
theorem OS.base {w : World} {B B' : Nat} {v : Value} {ls : List (List RecD)} (h : OS w B v ls) (hb : B' ≤ B) : OS w B' v ls := by
  obtain ⟨vs, h1, h2⟩ := h
  exact ⟨vs, ownsRow_base h1 hb, h2.base hb⟩
theorem OS.lt {w : World} {B : Nat} {v : Value} {ls : List (List RecD)} (h : OS w B v ls) {r : Nat} (hr : v.ownBlock = some r) : B ≤ r ∧ r < w.heap.size := by
  obtain ⟨vs, h1, h2⟩ := h
  exact World.ownsRow.lt h1 r hr
theorem OS.len {w : World} {B : Nat} {v : Value} {ls : List (List RecD)} (h : OS w B v ls) : ls.length ≤ maxLen := by
  obtain ⟨vs, h, -⟩ := h
  rcases h.2 with ⟨_, h0⟩ | ⟨g, cap, cur, _, _, _, hnc, hcm, _⟩
  · rw [h0]; exact Nat.zero_le _
  · exact Nat.le_trans hnc hcm
theorem OS.empty {w : World} {B : Nat} (hB : B ≤ w.heap.size) : OS (w.alloc (.cells #[] 93)) B (.slice (some ⟨w.heap.size, 0, none⟩) 0 0) [] := by
  have := World.ownsRow_made (base := w.heap.size) (e := 93) (size := 1) w #[] 0 (by simp) (Nat.zero_le _) rfl
  exact ⟨[], ownsRow_base (by simpa using this) hB, by simp [Seg]; omega⟩
/-- What lies where. -/
theorem OS.open_ {w : World} {B : Nat} {v : Value} {ls : List (List RecD)} (h : OS w B v ls) :
    ∃ (A : Option Addr) (c g : Nat) (vs : List Value), v = .slice A ls.length c ∧ (0 < ls.length → A = some ⟨g, 0, none⟩) ∧ B ≤ g ∧ (0 < ls.length → g < w.heap.size) ∧ Seg w B w.heap.size vs ls ∧
      (∀ (i : Nat) (u : Value), vs[i]? = some u → w.cell? ⟨g, i, none⟩ = some u ∧ w.frozen? ⟨g, i, none⟩ = false) ∧ (∀ (i : Nat) (u : Value) (r : Nat), vs[i]? = some u → u.ownBlock = some r → r ≠ g) := by
  obtain ⟨vs, h1, h2⟩ := h
  have hlen := h2.len
  rcases h1.2 with ⟨rfl, h0⟩ | ⟨g, cap, cur, rfl, hb, hh, hnc, _⟩
  · refine ⟨none, 0, B, vs, by rw [h0], fun h => by omega, Nat.le_refl _, fun h => by omega, h2, fun i u hi => ?_, fun i u r hi => ?_⟩
    all_goals
      have : vs = [] := List.eq_nil_of_length_eq_zero (by omega)
      subst this
      simp at hi
  · refine ⟨_, cap, g, vs, rfl, fun _ => rfl, hb, fun _ => (Array.getElem?_eq_some_iff.1 hh).1, h2, fun i u hi => ⟨?_, frozen_of_row _ _ _ _ _ hh⟩, fun i u r hi hr e => ?_⟩
    · have := h1.cells (g := g) rfl i _ hi
      rwa [add_zero_block] at this
    · subst e
      obtain ⟨u', e', ho⟩ := h2.at_ (i := i) (by rw [← hlen]; exact (List.getElem?_eq_some_iff.1 hi).1)
      rw [hi] at e'
      cases e'
      rcases ho.2 with ⟨rfl, _⟩ | ⟨g', cap', cur', rfl, _, hh', _⟩
      · simp [Value.ownBlock] at hr
      · obtain rfl : g' = r := by simpa [Value.ownBlock] using hr
        rw [hh] at hh'
        injection hh' with hh'
        injection hh' with _ ht _
        exact absurd ht (by decide)
theorem OS.st {w : World} {B : Nat} {v : Value} {ls : List (List RecD)} (h : OS w B v ls) : St w w.heap.size v ls := by
  have hl := h.len
  obtain ⟨A, c, g, vs, rfl, hA, hB, hg, hS, hC, -⟩ := h.open_
  refine ⟨⟨A, c, rfl, fun hn => ⟨g, 0, hA hn, hg hn, fun i hi => ?_⟩⟩, hl⟩
  obtain ⟨u, hu, ho⟩ := hS.at_ hi
  exact ⟨u, by rw [Nat.zero_add]; exact (hC i u hu).1, ho.rt⟩
theorem Keeps.of_grownE {w w' : World} {row : Option Nat} (h : w.grownBy w' row) : Keeps (fun b => row = some b) w w' :=
  ⟨h.os, h.tape, h.output, h.size, fun b hb hn => h.block b hb (fun e => hn e.symm)⟩
theorem OR.keepsV {S : Nat → Prop} {w w' : World} {B : Nat} {v : Value} {l : List RecD} (h : OR w B v l) (k : Keeps S w w') (hS : ∀ r, v.ownBlock = some r → ¬ S r) : OR w' B v l := by
  refine ⟨h.1, ?_⟩
  rcases h.2 with h0 | ⟨g, cap, cur, rfl, hb, hh, hr⟩
  · exact .inl h0
  · exact .inr ⟨g, cap, cur, rfl, hb, (k.block g (Array.getElem?_eq_some_iff.1 hh).1 (hS g rfl)).trans hh, hr⟩
theorem Seg.keeps {S : Nat → Prop} {w w' : World} {T : Nat} (k : Keeps S w w') : ∀ {vs : List Value} {ls : List (List RecD)} {B : Nat}, (∀ (i : Nat) (u : Value) (r : Nat), vs[i]? = some u → u.ownBlock = some r → ¬ S r) → Seg w B T vs ls → Seg w' B T vs ls
  | [], [], _, _, h => h
  | [], _ :: _, _, _, h => h.elim
  | _ :: _, [], _, _, h => h.elim
  | v :: vs, l :: ls, B, hS, ⟨M, h1, h2, h3, h4⟩ => ⟨M, h1, h2.keepsV k (fun r hr => hS 0 v r rfl hr), h3, Seg.keeps k (fun i u r hi hr => hS (i + 1) u r (by simpa using hi) hr) h4⟩
theorem row_apartS {w : World} {B B' n r : Nat} {v u : Value} {l : List RecD} {vs : List Value} (h : w.ownsRow B 93 1 v n vs) (hu : OR w B' u l) (hv : v.ownBlock = some r) : ¬ u.ownBlock = some r := fun hr => by
  rcases h.2 with ⟨rfl, _⟩ | ⟨g, cap, cur, rfl, hb, hh, _⟩
  · simp [Value.ownBlock] at hv
  · rcases hu.2 with ⟨rfl, _⟩ | ⟨g', cap', cur', rfl, _, hh', _⟩
    · simp [Value.ownBlock] at hr
    · obtain rfl : g = r := by simpa [Value.ownBlock] using hv
      obtain rfl : g' = g := by simpa [Value.ownBlock] using hr
      rw [hh] at hh'
      injection hh' with hh'
      injection hh' with _ ht _
      exact absurd ht (by decide)
theorem OS.push {w w' : World} {B T : Nat} {v v' u : Value} {l : List RecD} {ls : List (List RecD)} {vs : List Value} (h0 : w.ownsRow B 93 1 v ls.length vs) (hS : Seg w B T vs ls) (hT : T ≤ w.heap.size) (hu : OR w T u l)
    (k : Keeps (fun b => v.ownBlock = some b) w w') (h' : w'.ownsRow B 93 1 v' (ls.length + 1) (vs ++ [u])) : OS w' B v' (ls ++ [l]) := by
  refine ⟨vs ++ [u], by rw [List.length_append]; exact h', ?_⟩
  refine (Seg.keeps k (fun i x r hi hr hv => ?_) (Seg.snoc hu hT (fun r hr => (hu.lt hr).2) hS)).top k.size
  by_cases hlt : i < vs.length
  · rw [List.getElem?_append_left hlt] at hi
    obtain ⟨x', e, ho⟩ := hS.at_ (i := i) (by rw [← hS.len]; exact hlt)
    rw [hi] at e
    cases e
    exact row_apartS h0 ho hv hr
  · have : x = u := by
      have hlt2 := (List.getElem?_eq_some_iff.1 hi).1
      simp at hlt2
      obtain rfl : i = vs.length := by omega
      simpa using hi.symm
    subst this
    exact row_apartS h0 hu hv hr
theorem St.keeps {S : Nat → Prop} {w w' : World} {B : Nat} {v : Value} {ls : List (List RecD)} (h : St w B v ls) (hk : Keeps S w w') (hB : B ≤ w.heap.size) (hS : ∀ b, b < B → ¬ S b) : St w' B v ls :=
  h.below (hk.below (B := B) hB hS) (Nat.le_refl _)
theorem OS.keeps {S : Nat → Prop} {w w' : World} {B : Nat} {v : Value} {ls : List (List RecD)} (h : OS w B v ls) (hk : Keeps S w w') (hS : ∀ r, B ≤ r → ¬ S r) : OS w' B v ls := by
  obtain ⟨vs, ⟨hl, ho⟩, h2⟩ := h
  refine ⟨vs, ⟨hl, ho.imp id ?_⟩, (Seg.keeps hk (fun i u r hi hr => hS r (h2.lo hi hr)) h2).top hk.size⟩
  rintro ⟨g, cap, cur, hv, hb', hh, rest⟩
  exact ⟨g, cap, cur, hv, hb', (hk.block g (Array.getElem?_eq_some_iff.1 hh).1 (hS g hb')).trans hh, rest⟩
end Go.Proofs.YtkefbmbjkijilaaGreatDoor
/- Ec -/
set_option linter.unusedVariables false
namespace Go.Proofs.YtkefbmbjkijilaaGreatDoor
open Go.RowKit

/-- What ReadFrames answers of the bytes L. -/
def ReadAll (L : List Nat) (w : World) (e : Ending) (w' : World) : Prop :=
  ∃ v, e = .returned (.tuple #[v, .int .i64 ((framesN L).2 : Nat)]) ∧ OS w' w.heap.size v (framesN L).1 ∧ Below w.heap.size w w'
theorem getFrame_short {L : List Nat} (h : L.length < 4) : getFrame L = none := by unfold getFrame; rw [if_pos h]
theorem getFrame_cut {L : List Nat} (h : L.length < 4 + at2 L 0) : getFrame L = none := by
  unfold getFrame
  by_cases h4 : L.length < 4
  · rw [if_pos h4]
  · rw [if_neg h4, if_pos h]
theorem getFrame_sum {L : List Nat} (h : sumN ((L.drop 4).take (at2 L 0)) ≠ at2 L 2) : getFrame L = none := by
  unfold getFrame
  by_cases h4 : L.length < 4
  · rw [if_pos h4]
  · by_cases h5 : L.length < 4 + at2 L 0
    · rw [if_neg h4, if_pos h5]
    · rw [if_neg h4, if_neg h5, if_pos h]
theorem getFrame_bad {L : List Nat} (h : readN ((L.drop 4).take (at2 L 0)) = none) : getFrame L = none := by
  unfold getFrame
  by_cases h4 : L.length < 4
  · rw [if_pos h4]
  · by_cases h5 : L.length < 4 + at2 L 0
    · rw [if_neg h4, if_pos h5]
    · by_cases h6 : sumN ((L.drop 4).take (at2 L 0)) ≠ at2 L 2
      · rw [if_neg h4, if_neg h5, if_pos h6]
      · rw [if_neg h4, if_neg h5, if_neg h6, h]
theorem getFrame_good {L : List Nat} {l : List RecD} (h : 4 + at2 L 0 ≤ L.length) (hs : sumN ((L.drop 4).take (at2 L 0)) = at2 L 2) (hr : readN ((L.drop 4).take (at2 L 0)) = some l) : getFrame L = some (l, 4 + at2 L 0) := by
  unfold getFrame
  rw [if_neg (by omega), if_neg (by omega), if_neg (by simp [hs]), hr]

/-- So far it has come: p bytes, the lists done. -/
structure SoFar (L : List Nat) (p : Nat) (done : List (List RecD)) : Prop where
  le : p ≤ L.length
  short : done.length ≤ p
  it : framesN L = (done ++ (framesN (L.drop p)).1, p + (framesN (L.drop p)).2)
theorem SoFar.start (L : List Nat) : SoFar L 0 [] := ⟨Nat.zero_le _, Nat.le_refl _, by simp⟩
theorem SoFar.stop {L : List Nat} {p : Nat} {done : List (List RecD)} (h : SoFar L p done) (hg : getFrame (L.drop p) = none) : (framesN L).1 = done ∧ (framesN L).2 = p := by
  rw [h.it, framesN_none hg]
  simp
theorem SoFar.step {L : List Nat} {p k : Nat} {l : List RecD} {done : List (List RecD)} (h : SoFar L p done) (hg : getFrame (L.drop p) = some (l, k)) : SoFar L (p + k) (done ++ [l]) := by
  have hk := getFrame_len hg
  have hs := h.short
  rw [List.length_drop] at hk
  have hl := h.le
  refine ⟨by omega, by rw [List.length_append, List.length_singleton]; omega, ?_⟩
  rw [h.it, framesN_some hg, List.drop_drop]
  simp
  omega
end Go.Proofs.YtkefbmbjkijilaaGreatDoor
/- Ed -/
set_option linter.unusedVariables false
namespace Go.Proofs.YtkefbmbjkijilaaGreatDoor
open Go.RowKit

set_option maxRecDepth 100000 in
set_option maxHeartbeats 4000000 in
theorem specReadFrames_any (v : Value) (L : List Nat) (w : World) (h : Bt w w.heap.size v L) (hsz : L.length ≤ 4194304) :
    Calls Tryz.prog 27 #[v] w (ReadAll L w) := by
  have H := Lib.hid h
  obtain ⟨⟨A, c, rfl, hcap, -⟩, hl, hs⟩ := h
  have HS := Lib.hid hs
  have HL := Lib.hid hl
  have hl' : L.length ≤ 4194304 := hsz
  clear hs hl hsz
  obtain ⟨i0, hi, hz0, hz1, hz2⟩ := info_parts info_recs
  have HI := Lib.hid hi
  have HZ0 := Lib.hid hz0
  have HZ1 := Lib.hid hz1
  have HZ2 := Lib.hid hz2
  clear hi hz0 hz1 hz2
  generalize hn : L.length = n at *
  have HN := Lib.hid hn
  clear hn
  go_enter Tryz.func27, Tryz.ntmps27
  go_wp2_with fail
  go_loopw [4, 5] (fun s4 s5 wr => ∃ (p : Nat) (done : List (List RecD)), s5 = .int .i64 p ∧ p ≤ n ∧ SoFar L p done ∧ OS wr w.heap.size s4 done ∧ Below w.heap.size w wr) (fun _ s5 _ => n - (intOf s5).toNat)
  case atStart => exact ⟨0, [], rfl, Nat.zero_le _, SoFar.start L, OS.empty (Nat.le_refl _), (Below.refl _ _).alloc (Nat.le_refl _) _⟩
  case round =>
    obtain ⟨p, done, rfl, hp, hsf, O, K⟩ := hrel
    have HSF := Lib.hid hsf
    have HO := Lib.hid O
    have HK := Lib.hid K
    clear hsf O K
    by_cases h4 : p + 4 ≤ n
    · go_wp2_with fail
      have HB := Lib.hid ((H.out.below HK.out (Nat.le_refl _)).more HK.out.size)
      refine (l4Of_any _ L p _ rfl wr HB.out (by rw [HN.out]; omega)).mono ?_
      rintro e w1 ⟨rfl, hb1⟩
      have HAT := Lib.hid (at2_drop L p 0)
      have hm := at2_lt HS.out p
      have HK1 := Lib.hid (HK.out.trans (hb1.mono HK.out.size))
      have HO1 := Lib.hid (HO.out.below hb1)
      clear HB hb1 HK HO
      rw [Nat.add_zero] at HAT
      generalize hmm : at2 L p = m at *
      have HM := Lib.hid hmm
      clear hmm
      by_cases h5 : p + 4 + m ≤ n
      · obtain ⟨b, off, rfl, hb, -⟩ := H.out.cell (k := p) (by rw [HN.out]; omega)
        have e4 : (L.drop p).drop 4 = L.drop (p + 4) := by rw [List.drop_drop]
        have HE1 : Hid (sumN ((L.drop (p + 4)).take m) ≠ at2 L (p + 2) → (framesN L).1 = done ∧ (framesN L).2 = p) := Lib.hid fun hh =>
          HSF.out.stop (getFrame_sum (by rw [HAT.out, at2_drop, e4]; exact hh))
        have HE2 : Hid (readN ((L.drop (p + 4)).take m) = none → (framesN L).1 = done ∧ (framesN L).2 = p) := Lib.hid fun hh =>
          HSF.out.stop (getFrame_bad (by rw [HAT.out, e4]; exact hh))
        have HE3 : Hid (∀ l, sumN ((L.drop (p + 4)).take m) = at2 L (p + 2) → readN ((L.drop (p + 4)).take m) = some l → SoFar L (p + (4 + m)) (done ++ [l])) := Lib.hid fun l h1 h2 =>
          HSF.out.step (by
            have := getFrame_good (L := L.drop p) (l := l) (by rw [HAT.out, List.length_drop, HN.out]; omega) (by rw [HAT.out, at2_drop, e4]; exact h1) (by rw [HAT.out, e4]; exact h2)
            rwa [HAT.out] at this)
        have HB : Hid (∀ Q, (¬ c = p + 4 → Q = some ⟨b, off + (p + 4), none⟩) → Bt w w.heap.size (.slice Q m (c - (p + 4))) ((L.drop (p + 4)).take m)) := Lib.hid fun Q hQ => by
          by_cases hc : c = p + 4
          · obtain rfl : m = 0 := by omega
            rw [List.take_zero]
            exact Bt.nil _ _ _ _
          · rw [hQ hc]
            exact (H.out.drop_at (k := p + 4) (A := some ⟨b, off + (p + 4), none⟩) (by omega) (fun _ => rfl)).take (k := m) (c' := c - (p + 4)) (by rw [List.length_drop, HN.out]; omega) (by omega)
        have HLB := Lib.hid ((H.out.below HK1.out (Nat.le_refl _)).more HK1.out.size)
        obtain ⟨vs, O0, SG⟩ := HO1.out
        have HO0 := Lib.hid O0
        have HSG := Lib.hid SG
        clear O0 SG e4 HSF
        generalize (L.drop (p + 4)).take m = M at *
        by_cases hc : c = p + 4
        · subst hc
          have HBT := Lib.hid (((HB.out (some ⟨b, off, none⟩) (fun h => absurd rfl h)).below HK1.out (Nat.le_refl _)).more HK1.out.size)
          rw [Nat.sub_self] at HBT
          clear HB
          go_wp2_with fail
          refine (specReadRecs_any _ M w1 HBT.out).mono ?_
          rintro e w2 ⟨v2, rfl, O2, hb2⟩
          have HBT2 := Lib.hid (HBT.out.go hb2)
          have HLB2 := Lib.hid (HLB.out.go hb2)
          have HH2 := Lib.hid hb2
          have HO2 := Lib.hid O2
          obtain ⟨A2, c2, g2, rfl, -⟩ := O2.open_
          clear O2 hb2 HBT HLB
          generalize hq : readN M = q at *
          clear hq
          go_wp2_with fail
          refine (specSumOf_any _ M w2 HBT2.out).mono ?_
          rintro e w3 ⟨rfl, rfl⟩
          go_wp2_with fail
          refine (l4Of_any _ L (p + 2) ((p : Int) + 2) (by omega) w2 HLB2.out (by rw [HN.out]; omega)).mono ?_
          rintro e w3 ⟨rfl, hb3⟩
          have HH3 := Lib.hid hb3
          have HK3 := Lib.hid ((HK1.out.trans (HH2.out.mono HK1.out.size)).trans (hb3.mono (HK1.out.trans (HH2.out.mono HK1.out.size)).size))
          clear hb3 HBT2 HLB2
          generalize sumN M = sm at *
          generalize at2 L (p + 2) = t at *
          by_cases hs : sm = t
          · subst hs
            cases q with
            | none =>
              have HC := Lib.hid (HE2.out rfl)
              go_wp2
              go_ret2
              exact ⟨_, ret_two rfl (int_eq (by rw [HC.out.2])), by rw [HC.out.1]; exact (HO1.out.below HH2.out).below HH3.out, HK3.out⟩
            | some l =>
              have HS3 := Lib.hid (HE3.out l rfl rfl)
              have h63 : Hid (done.length + 1 ≤ maxLen) := Lib.hid (by have := HS3.out.short; have := HS3.out.le; rw [HN.out] at this; simp at *; unfold maxLen; omega)
              have hby : Hid ((done.length + 1) * 24 ≤ 140737488355328) := Lib.hid (by have := HS3.out.short; have := HS3.out.le; rw [HN.out] at this; simp at *; omega)
              have hs3 := HK3.out.size
              have HR3 := Lib.hid (ownsRow_below (ownsRow_below HO0.out HH2.out) HH3.out)
              have HU3 := Lib.hid (HO2.out.below HH3.out)
              have HSG3 := Lib.hid ((HSG.out.below HH2.out).below HH3.out)
              have h13 := Lib.hid (Nat.le_trans HH2.out.size HH3.out.size)
              clear HE1 HE2 HE3 HH2 HH3 HO0 HO2 HSG HO1
              simp only [Option.getD_some] at HU3 ⊢
              go_wp2_with ((at_builtin; refine wpList_append_own _ rfl _ _ 67 rfl w.heap.size 93 i0 (.slice none 0 0) 1 24 Tryz.underlying67 HI.out HZ0.out HZ1.out HZ2.out rfl (by decide) _ _ _ rfl (ownsRow_below HR3.out ((Below.refl _ _).alloc (Nat.le_refl _) _)) ⟨w3.heap.size, 0, none⟩ 1 1 [.slice A2 l.length c2] rfl rfl (cell_one_new _ _ _) (fun x hx => by simp at hx; subst hx; rfl) h63.out hby.out (by simp; omega) ?_; intro v' w4 hown' hgrow hnil))
              refine ⟨⟨p + (4 + m), done ++ [l], int_eq (by omega), by omega, HS3.out, OS.push HR3.out HSG3.out h13.out HU3.out (((Keeps.of_below ((Below.refl _ _).alloc (Nat.le_refl _) _)).trans (Keeps.of_grownE hgrow))) hown', (HK3.out.alloc hs3 _).grown hgrow (by simp; omega) fun r hr => (World.ownsRow.lt HR3.out r hr).1⟩, by simp [intOf]; omega⟩
          · have hne : ¬ (sm : Int) = (t : Int) := by omega
            have HC := Lib.hid (HE1.out hs)
            go_wp2
            go_ret2
            exact ⟨_, ret_two rfl (int_eq (by rw [HC.out.2])), by rw [HC.out.1]; exact (HO1.out.below HH2.out).below HH3.out, HK3.out⟩
        · have HBT := Lib.hid (((HB.out _ (fun _ => rfl)).below HK1.out (Nat.le_refl _)).more HK1.out.size)
          clear HB
          go_wp2_with fail
          refine (specReadRecs_any _ M w1 HBT.out).mono ?_
          rintro e w2 ⟨v2, rfl, O2, hb2⟩
          have HBT2 := Lib.hid (HBT.out.go hb2)
          have HLB2 := Lib.hid (HLB.out.go hb2)
          have HH2 := Lib.hid hb2
          have HO2 := Lib.hid O2
          obtain ⟨A2, c2, g2, rfl, -⟩ := O2.open_
          clear O2 hb2 HBT HLB
          generalize hq : readN M = q at *
          clear hq
          go_wp2_with fail
          refine (specSumOf_any _ M w2 HBT2.out).mono ?_
          rintro e w3 ⟨rfl, rfl⟩
          go_wp2_with fail
          refine (l4Of_any _ L (p + 2) ((p : Int) + 2) (by omega) w2 HLB2.out (by rw [HN.out]; omega)).mono ?_
          rintro e w3 ⟨rfl, hb3⟩
          have HH3 := Lib.hid hb3
          have HK3 := Lib.hid ((HK1.out.trans (HH2.out.mono HK1.out.size)).trans (hb3.mono (HK1.out.trans (HH2.out.mono HK1.out.size)).size))
          clear hb3 HBT2 HLB2
          generalize sumN M = sm at *
          generalize at2 L (p + 2) = t at *
          by_cases hs : sm = t
          · subst hs
            cases q with
            | none =>
              have HC := Lib.hid (HE2.out rfl)
              go_wp2
              go_ret2
              exact ⟨_, ret_two rfl (int_eq (by rw [HC.out.2])), by rw [HC.out.1]; exact (HO1.out.below HH2.out).below HH3.out, HK3.out⟩
            | some l =>
              have HS3 := Lib.hid (HE3.out l rfl rfl)
              have h63 : Hid (done.length + 1 ≤ maxLen) := Lib.hid (by have := HS3.out.short; have := HS3.out.le; rw [HN.out] at this; simp at *; unfold maxLen; omega)
              have hby : Hid ((done.length + 1) * 24 ≤ 140737488355328) := Lib.hid (by have := HS3.out.short; have := HS3.out.le; rw [HN.out] at this; simp at *; omega)
              have hs3 := HK3.out.size
              have HR3 := Lib.hid (ownsRow_below (ownsRow_below HO0.out HH2.out) HH3.out)
              have HU3 := Lib.hid (HO2.out.below HH3.out)
              have HSG3 := Lib.hid ((HSG.out.below HH2.out).below HH3.out)
              have h13 := Lib.hid (Nat.le_trans HH2.out.size HH3.out.size)
              clear HE1 HE2 HE3 HH2 HH3 HO0 HO2 HSG HO1
              simp only [Option.getD_some] at HU3 ⊢
              go_wp2_with ((at_builtin; refine wpList_append_own _ rfl _ _ 67 rfl w.heap.size 93 i0 (.slice none 0 0) 1 24 Tryz.underlying67 HI.out HZ0.out HZ1.out HZ2.out rfl (by decide) _ _ _ rfl (ownsRow_below HR3.out ((Below.refl _ _).alloc (Nat.le_refl _) _)) ⟨w3.heap.size, 0, none⟩ 1 1 [.slice A2 l.length c2] rfl rfl (cell_one_new _ _ _) (fun x hx => by simp at hx; subst hx; rfl) h63.out hby.out (by simp; omega) ?_; intro v' w4 hown' hgrow hnil))
              refine ⟨⟨p + (4 + m), done ++ [l], int_eq (by omega), by omega, HS3.out, OS.push HR3.out HSG3.out h13.out HU3.out (((Keeps.of_below ((Below.refl _ _).alloc (Nat.le_refl _) _)).trans (Keeps.of_grownE hgrow))) hown', (HK3.out.alloc hs3 _).grown hgrow (by simp; omega) fun r hr => (World.ownsRow.lt HR3.out r hr).1⟩, by simp [intOf]; omega⟩
          · have hne : ¬ (sm : Int) = (t : Int) := by omega
            have HC := Lib.hid (HE1.out hs)
            go_wp2
            go_ret2
            exact ⟨_, ret_two rfl (int_eq (by rw [HC.out.2])), by rw [HC.out.1]; exact (HO1.out.below HH2.out).below HH3.out, HK3.out⟩
      · have hcut := HSF.out.stop (getFrame_cut (by rw [List.length_drop, HN.out, HAT.out]; omega))
        have HC := Lib.hid hcut
        clear hcut
        go_wp2
        go_ret2
        exact ⟨_, ret_two rfl (int_eq (by rw [HC.out.2])), by rw [HC.out.1]; exact HO1.out, HK1.out⟩
    · have hend := HSF.out.stop (getFrame_short (by rw [List.length_drop, HN.out]; omega))
      have HC := Lib.hid hend
      clear hend
      go_wp2
      go_ret2
      exact ⟨_, ret_two rfl (int_eq (by rw [HC.out.2])), by rw [HC.out.1]; exact HO.out, HK.out⟩
end Go.Proofs.YtkefbmbjkijilaaGreatDoor
/- Fj -/
set_option linter.unusedVariables false
namespace Go.Proofs.YtkefbmbjkijilaaGreatDoor
open Go.RowKit

/-- A slice that has a place, or nil. -/
def Real (v : Value) : Prop := v = .slice none 0 0 ∨ ∃ ad m c, v = .slice (some ad) m c
theorem OB.real {w : World} {B : Nat} {v : Value} {L : List Nat} (h : OB w B v L) : Real v := by
  rcases h.own.2 with ⟨h0, -⟩ | ⟨g, cap, cur, rfl, -⟩
  · exact .inl h0
  · exact .inr ⟨_, _, _, rfl⟩
def headOf (v : Value) (p : Nat) : Value := match v with
  | .slice none _ _ => .slice none 0 0
  | .slice (some ad) _ c => .slice (some ad) p c
  | v => v
theorem Real.head {v : Value} (h : Real v) (p : Nat) : Real (headOf v p) := by
  rcases h with rfl | ⟨ad, m, c, rfl⟩
  · exact .inl rfl
  · exact .inr ⟨_, _, _, rfl⟩
theorem Bt.slice_len {w : World} {B : Nat} {A : Option Addr} {m c : Nat} {L : List Nat} (h : Bt w B (.slice A m c) L) : L.length = m ∧ m ≤ c := by
  obtain ⟨⟨A', c1, hv, hcap, hc⟩, hl, hs⟩ := h
  injection hv with h1 h2 h3
  subst h2 h3
  exact ⟨rfl, hcap⟩
theorem Bt.head {w : World} {B p : Nat} {v : Value} {L : List Nat} (h : Bt w B v L) (hr : Real v) (hp : p ≤ L.length) : Bt w B (headOf v p) (L.take p) := by
  rcases hr with rfl | ⟨ad, m, c, rfl⟩
  · have e := h.slice_len.1
    have : L = [] := List.eq_nil_of_length_eq_zero e
    subst this
    simpa [headOf] using Bt.nil w B none 0
  · exact h.take hp (by have := h.slice_len; omega)

theorem wpList_append_bt {w : World} {ops : Array Oper} {rest : List Oper} {o : Oper} {a : Act} {Q : Exit → Act → World → Prop} (hgd : o.guard = none) (s x : Operand)
    (ho : o.op = .call { callee := .builtin .append, args := #[s, x], argTypes := #[33, 33] }) (base : Nat) (v : Value) (M : List Nat) (hs : a.eval s = v) (hown : OB w base v M)
    (u : Value) (L : List Nat) (hx : a.eval x = u) {B : Nat} (hb : Bt w B u L) (hr : Real u) (hlen : M.length + L.length ≤ 8388608) (hbase : base ≤ w.heap.size)
    (h : ∀ v' w', OB w' base v' (M ++ L) → w.grownBy w' v.ownBlock → wpList Tryz.prog ops Q rest (a.put o.dst v') w') : wpList Tryz.prog ops Q (o :: rest) a w := by
  obtain ⟨i0, hi, hz0, hz1, hz2⟩ := info_parts info_u8
  rcases hr with rfl | ⟨ad, m, c, rfl⟩
  · have hL : L = [] := List.eq_nil_of_length_eq_zero hb.slice_len.1
    subst hL
    refine wpList_append_own_none hgd s x 33 ho base 5 i0 1 Tryz.underlying33 hi v M.length _ hs hown.own hx ?_
    have := h v w (by rw [List.append_nil]; exact hown) ⟨rfl, rfl, rfl, Nat.le_refl _, fun _ _ _ => rfl⟩
    exact this
  · obtain ⟨hm, hmc⟩ := hb.slice_len
    refine wpList_append_own w hgd s x 33 ho base 5 i0 (.int .u8 0) 1 1 Tryz.underlying33 hi hz0 hz1 hz2 rfl (by decide) v M.length _ hs hown.own ad m c (L.map byteV) hx (by rw [List.length_map, hm, Nat.mul_one]) ?_ one_bytes (by unfold maxLen; omega) (by omega) hbase ?_
    · intro j y hy
      have hj : j < L.length := by
        have := (List.getElem?_eq_some_iff.1 hy).1
        simpa using this
      rw [byteV_get hj] at hy
      cases hy
      obtain ⟨b, off, e, hb1, q⟩ := hb.cell hj
      cases e
      have ha : (⟨b, off, none⟩ : Addr).add j = ⟨b, off + j, none⟩ := by unfold Addr.add; split <;> simp_all
      rw [ha]
      exact q
    · intro v' w' h1 h2 _
      exact h v' w' ⟨by rw [List.length_append, List.map_append, hm]; exact h1, hown.small.append hb.small⟩ h2
end Go.Proofs.YtkefbmbjkijilaaGreatDoor
/- Fa -/
set_option linter.unusedVariables false
namespace Go.Proofs.YtkefbmbjkijilaaGreatDoor
open Go.RowKit

theorem sumN_take' {L : List Nat} {k : Nat} (hk : k < L.length) : sumN (L.take (k + 1)) = (sumN (L.take k) * 31 + L.getD k 0) % 65521 := by
  rw [sumN_take hk, Nat.mul_comm]
set_option maxHeartbeats 1000000 in
theorem sumOf_any (v : Value) (L : List Nat) (w : World) (h : Bt w w.heap.size v L) :
    Calls Tryz.prog 147 #[v] w fun e w' => e = .returned (.int .i64 (sumN L)) ∧ w = w' := by
  have H := Lib.hid h
  obtain ⟨⟨A, c, rfl, hcap, -⟩, hl, hs⟩ := h
  have HS := Lib.hid hs
  have hl' : L.length ≤ 2 ^ 63 - 1 := by unfold maxLen at hl; omega
  clear hs hl hcap
  generalize hn : L.length = n at *
  have HN := Lib.hid hn
  clear hn
  go_enter Tryz.func147, Tryz.ntmps147
  go_wp2
  go_loop [3, 8] (fun s3 s8 => ∃ k : Nat, k ≤ n ∧ s8 = .int .i64 k ∧ s3 = .int .i64 (sumN (L.take k))) (fun _ s8 => n - (intOf s8).toNat)
  case atStart => exact ⟨0, Nat.zero_le _, rfl, rfl⟩
  case round =>
    obtain ⟨k, hk, rfl, rfl⟩ := hrel
    by_cases hlt : k < n
    · obtain ⟨b, off, rfl, hb, q⟩ := H.out.cell (k := k) (by rw [HN.out]; exact hlt)
      have zlt := HS.out.getD k
      have hsum := Lib.hid (sumN_take' (L := L) (k := k) (by rw [HN.out]; exact hlt))
      have slt := sumN_lt (L.take k)
      generalize L.getD k 0 = z at *
      generalize sumN (L.take k) = s at *
      go_wp2
      refine ⟨⟨k + 1, by omega, by go_num, ?_⟩, by simp [intOf]; omega⟩
      rw [hsum.out]
      go_num
    · obtain rfl : k = n := by omega
      have e1 := Lib.hid (show L.take k = L from List.take_of_length_le (by rw [HN.out]; exact Nat.le_refl _))
      go_wp2
      go_ret
      exact ⟨by rw [e1.out]; rfl, rfl⟩
end Go.Proofs.YtkefbmbjkijilaaGreatDoor
/- Fb -/
set_option linter.unusedVariables false
namespace Go.Proofs.YtkefbmbjkijilaaGreatDoor
open Go.RowKit

theorem two_num {x y : Nat} (hx : x < 256) (hy : y < 256) : (x : Int) + (y : Int) * 256 = ((x + 256 * y : Nat) : Int) := by omega
set_option maxHeartbeats 400000 in
theorem twoBytes_any (x y : Nat) (w : World) (hx : x < 256) (hy : y < 256) :
    Calls Tryz.prog 146 #[.int .u8 x, .int .u8 y] w fun e w' => e = .returned (.int .i64 ((x + 256 * y : Nat) : Int)) ∧ w = w' := by
  go_enter Tryz.func146, Tryz.ntmps146
  go_wp2
  go_ret
  refine ⟨?_, rfl⟩
  show Ending.returned (Value.int .i64 ((x : Int) + (y : Int) * 256)) = _
  rw [two_num hx hy]
end Go.Proofs.YtkefbmbjkijilaaGreatDoor
/- Ff -/
set_option linter.unusedVariables false
namespace Go.Proofs.YtkefbmbjkijilaaGreatDoor
open Go.RowKit

/-- What firstFrame answers of the bytes L. -/
def First (L : List Nat) (w : World) (e : Ending) (w' : World) : Prop :=
  ∃ (v : Value) (k : Int), e = .returned (.tuple #[v, .int .i64 k, .bool (getFrame L).isSome]) ∧ Below w.heap.size w w' ∧ ∀ l z, getFrame L = some (l, z) → k = (z : Nat) ∧ OR w' w.heap.size v l
theorem First.no {L : List Nat} {w w' : World} {e : Ending} {v : Value} {k : Int} (h : getFrame L = none) (he : e = .returned (.tuple #[v, .int .i64 k, .bool false])) (hb : Below w.heap.size w w') : First L w e w' :=
  ⟨v, k, by rw [he, h]; rfl, hb, fun l z hh => by rw [h] at hh; cases hh⟩
set_option maxRecDepth 100000 in
set_option maxHeartbeats 4000000 in
theorem firstFrame_any (v : Value) (L : List Nat) (w : World) (hN : Names w) (h : Bt w w.heap.size v L) :
    Calls Tryz.prog 117 #[v] w (First L w) := by
  have HNM := Lib.hid hN
  have H := Lib.hid h
  obtain ⟨⟨A, c, rfl, hcap, -⟩, hl, hs⟩ := h
  have HS := Lib.hid hs
  have hl' : L.length ≤ 2 ^ 63 - 1 := by unfold maxLen at hl; omega
  clear hs hl hN
  generalize hn : L.length = n at *
  have HN := Lib.hid hn
  clear hn
  go_enter Tryz.func117, Tryz.ntmps117
  by_cases h4 : n < 4
  · have HG := Lib.hid (getFrame_short (L := L) (by rw [HN.out]; exact h4))
    go_wp2_with fail
    go_ret3
    exact First.no HG.out rfl (Below.refl _ _)
  · obtain ⟨b, off, rfl, hb, q0⟩ := H.out.cell (k := 0) (by rw [HN.out]; omega)
    obtain ⟨b', off', e, hb', q1⟩ := H.out.cell (k := 1) (by rw [HN.out]; omega)
    injection e with e
    injection e with e1 e2
    subst e1 e2
    rw [Nat.add_zero] at q0
    have z0 := HS.out.getD 0
    have z1 := HS.out.getD 1
    have hat := Lib.hid (show at2 L 0 = L.getD 0 0 + 256 * L.getD 1 0 from rfl)
    generalize hm : at2 L 0 = m at *
    have HM := Lib.hid hm
    generalize L.getD 0 0 = x at *
    generalize L.getD 1 0 = y at *
    go_wp2_with fail
    go_quiet ((go_at_call 146; exact Calls.quiet_of_same ((twoBytes_any _ _ _ z0 z1).mono fun e w' h => ⟨h.1, h.2.symm⟩)))
    have hlt : m < 65536 := by have := hat.out; omega
    rw [show (4 : Int) + ((x : Int) + 256 * (y : Int)) = ((4 + m : Nat) : Int) by have := hat.out; omega]
    have X := below_drewN (Below.refl w.heap.size w) nq
    generalize w.drewN nq = w1 at *
    have HX := Lib.hid X
    clear X q0 q1 hat z0 z1 hm
    by_cases h5 : n < 4 + m
    · have HG := Lib.hid (getFrame_cut (L := L) (by rw [HN.out, HM.out]; exact h5))
      go_wp2_with fail
      go_ret3
      exact First.no HG.out rfl HX.out
    · have HG1 : Hid (sumN ((L.drop 4).take m) ≠ at2 L 2 → getFrame L = none) := Lib.hid fun h => getFrame_sum (by rw [HM.out]; exact h)
      have HG2 : Hid (readN ((L.drop 4).take m) = none → getFrame L = none) := Lib.hid fun h => getFrame_bad (by rw [HM.out]; exact h)
      have HG3 : Hid (∀ l, sumN ((L.drop 4).take m) = at2 L 2 → readN ((L.drop 4).take m) = some l → getFrame L = some (l, 4 + m)) := Lib.hid fun l h1 h2 => by
        have := getFrame_good (L := L) (l := l) (by rw [HM.out, HN.out]; omega) (by rw [HM.out]; exact h1) (by rw [HM.out]; exact h2)
        rwa [HM.out] at this
      have HB : Hid (∀ Q, (¬ c = 4 → Q = some ⟨b, off + 4, none⟩) → Bt w w.heap.size (.slice Q m (c - 4)) ((L.drop 4).take m)) := Lib.hid fun Q hQ => by
        by_cases hc : c = 4
        · obtain rfl : m = 0 := by omega
          rw [List.take_zero]
          exact Bt.nil _ _ _ _
        · rw [hQ hc]
          exact (H.out.drop_at (k := 4) (A := some ⟨b, off + 4, none⟩) (by omega) (fun _ => rfl)).take (k := m) (c' := c - 4) (by rw [List.length_drop, HN.out]; omega) (by omega)
      obtain ⟨b', off', e, hb', q2⟩ := (H.out.below HX.out (Nat.le_refl _)).cell (k := 2) (by rw [HN.out]; omega)
      injection e with e
      injection e with e1 e2
      subst e1 e2
      obtain ⟨b', off', e, hb', q3⟩ := (H.out.below HX.out (Nat.le_refl _)).cell (k := 3) (by rw [HN.out]; omega)
      injection e with e
      injection e with e1 e2
      subst e1 e2
      have z2 := HS.out.getD 2
      have z3 := HS.out.getD 3
      have hat := Lib.hid (show at2 L 2 = L.getD 2 0 + 256 * L.getD 3 0 from rfl)
      generalize at2 L 2 = t at *
      generalize L.getD 2 0 = x2 at *
      generalize L.getD 3 0 = y2 at *
      generalize (L.drop 4).take m = M at *
      by_cases hc : c = 4
      · subst hc
        have HBT := Lib.hid (((HB.out (some ⟨b, off, none⟩) (fun h => absurd rfl h)).below HX.out (Nat.le_refl _)).more HX.out.size)
        rw [Nat.sub_self] at HBT
        clear HB
        go_wp2_with fail
        go_quiet (first
          | (go_at_call 147; exact Calls.quiet_of_same ((sumOf_any _ M _ (HBT.out.go (below_drewN (Below.refl _ _) _))).mono fun e w' h => ⟨h.1, h.2.symm⟩))
          | (go_at_call 146; exact Calls.quiet_of_same ((twoBytes_any _ _ _ z2 z3).mono fun e w' h => ⟨h.1, h.2.symm⟩)))
        have X2 := HX.out.trans ((below_drewN (Below.refl w1.heap.size w1) nq).mono HX.out.size)
        have HBT2 := Lib.hid (HBT.out.go (below_drewN (Below.refl w1.heap.size w1) nq))
        generalize w1.drewN nq = w2 at *
        have HX2 := Lib.hid X2
        clear X2 q2 q3 HBT
        by_cases hs : sumN M = t
        · rw [show ((sumN M : Int) != (x2 : Int) + 256 * (y2 : Int)) = false by have := hat.out; simp; omega]
          go_wp2_with fail
          refine (readRecs_any _ M w2 (HNM.out.go HX2.out) HBT2.out).mono ?_
          rintro e w3 ⟨v3, rfl, O3, hb3⟩
          have HO3 := Lib.hid O3
          have HX3 := Lib.hid (HX2.out.trans (hb3.mono HX2.out.size))
          clear O3 hb3
          go_wp2_with fail
          cases hr : readN M with
          | none =>
            go_ret3
            exact First.no (HG2.out hr) rfl HX3.out
          | some l =>
            have hg := HG3.out l hs hr
            go_ret3
            refine ⟨_, _, ret_three rfl rfl ?_, HX3.out, fun l' z h => ?_⟩
            · rw [hg]; rfl
            · rw [hg] at h
              cases h
              exact ⟨by omega, by have := HO3.out.base HX2.out.size; rw [hr] at this; exact this⟩
        · have HG := Lib.hid (HG1.out hs)
          rw [show ((sumN M : Int) != (x2 : Int) + 256 * (y2 : Int)) = true by have := hat.out; simp; omega]
          go_wp2_with fail
          go_ret3
          exact First.no HG.out rfl HX2.out
      · have HBT := Lib.hid (((HB.out _ (fun _ => rfl)).below HX.out (Nat.le_refl _)).more HX.out.size)
        clear HB
        go_wp2_with fail
        go_quiet (first
          | (go_at_call 147; exact Calls.quiet_of_same ((sumOf_any _ M _ (HBT.out.go (below_drewN (Below.refl _ _) _))).mono fun e w' h => ⟨h.1, h.2.symm⟩))
          | (go_at_call 146; exact Calls.quiet_of_same ((twoBytes_any _ _ _ z2 z3).mono fun e w' h => ⟨h.1, h.2.symm⟩)))
        have X2 := HX.out.trans ((below_drewN (Below.refl w1.heap.size w1) nq).mono HX.out.size)
        have HBT2 := Lib.hid (HBT.out.go (below_drewN (Below.refl w1.heap.size w1) nq))
        generalize w1.drewN nq = w2 at *
        have HX2 := Lib.hid X2
        clear X2 q2 q3 HBT
        by_cases hs : sumN M = t
        · rw [show ((sumN M : Int) != (x2 : Int) + 256 * (y2 : Int)) = false by have := hat.out; simp; omega]
          go_wp2_with fail
          refine (readRecs_any _ M w2 (HNM.out.go HX2.out) HBT2.out).mono ?_
          rintro e w3 ⟨v3, rfl, O3, hb3⟩
          have HO3 := Lib.hid O3
          have HX3 := Lib.hid (HX2.out.trans (hb3.mono HX2.out.size))
          clear O3 hb3
          go_wp2_with fail
          cases hr : readN M with
          | none =>
            go_ret3
            exact First.no (HG2.out hr) rfl HX3.out
          | some l =>
            have hg := HG3.out l hs hr
            go_ret3
            refine ⟨_, _, ret_three rfl rfl ?_, HX3.out, fun l' z h => ?_⟩
            · rw [hg]; rfl
            · rw [hg] at h
              cases h
              exact ⟨by omega, by have := HO3.out.base HX2.out.size; rw [hr] at this; exact this⟩
        · have HG := Lib.hid (HG1.out hs)
          rw [show ((sumN M : Int) != (x2 : Int) + 256 * (y2 : Int)) = true by have := hat.out; simp; omega]
          go_wp2_with fail
          go_ret3
          exact First.no HG.out rfl HX2.out
end Go.Proofs.YtkefbmbjkijilaaGreatDoor
/- Fg -/
set_option linter.unusedVariables false
namespace Go.Proofs.YtkefbmbjkijilaaGreatDoor
open Go.RowKit Go.Shelf

attribute [local go_sem] Oper.semAt_some

/-- One round, as the iterator asks for it: J at what has come and where it ends, the world as it was when the frame was looked for. -/
def RoundAt (L : List Nat) (l n : Nat) (J : List (List RecD) → Nat → World → Prop) : Prop :=
  ∀ (done : List (List RecD)) (p : Nat) (l' : List RecD) (k : Nat) (v : Value) (W0 W1 : World), J done p W0 → SoFar L p done → getFrame (L.drop p) = some (l', k) → Below W0.heap.size W0 W1 → OR W1 W0.heap.size v l' →
    YieldAt Fence.wide n Tryz.prog l #[v, .int .i64 ((p : Int) + (k : Int))] W1 fun e W' => e = .returned (.bool true) ∧ J (done ++ [l']) (p + k) W'

set_option maxRecDepth 100000 in
set_option maxHeartbeats 2000000 in
theorem whole1_in (n l Bn c : Nat) (hnn : 1 ≤ n) (A : Option Addr) (L : List Nat) (J : List (List RecD) → Nat → World → Prop)
    (hJ : ∀ done p W, J done p W → W.cell? ⟨Bn, 0, none⟩ = some (.slice A L.length c) ∧ Bt W W.heap.size (.slice A L.length c) L ∧ Names W)
    (hY : RoundAt L l (n - 1) J) (W : World) (h0 : J [] 0 W) :
    CallsIn Fence.wide n Tryz.prog 116 #[.func (.yield l) #[] #[], .pointer (some ⟨Bn, 0, none⟩)] W fun e W' => (∃ v, e = .returned v) ∧
      ∃ W0, J (framesN L).1 (framesN L).2 W0 ∧ Below W0.heap.size W0 W' := by
  have HJ := Lib.hid hJ
  have HY := Lib.hid hY
  have hl := (hJ _ _ _ h0).2.1.len
  have hl' : L.length ≤ 2 ^ 63 - 1 := by unfold maxLen at hl; omega
  have H0 := Lib.hid h0
  clear hJ hY h0 hl
  generalize hn : L.length = m at *
  have HN := Lib.hid hn
  clear hn
  refine callsIn_of_wp Tryz.func116 rfl trivial ?_ rfl
  simp only [Tryz.ntmps116, List.size_toArray, List.length_cons, List.length_nil, Nat.reduceAdd, Nat.reduceSub, Array.replicate_succ, Array.replicate_zero, List.push_toArray, List.append_toArray, List.nil_append, List.cons_append]
  gi_wp2
  gi_loopw [3] (fun s3 wr => ∃ (p : Nat) (done : List (List RecD)), s3 = .int .i64 p ∧ p ≤ m ∧ SoFar L p done ∧ J done p wr) (fun s3 _ => m - (intOf s3).toNat)
  case atStart => exact ⟨0, [], rfl, Nat.zero_le _, SoFar.start L, H0.out⟩
  case round =>
    obtain ⟨p, done, rfl, hp, hsf, hj⟩ := hrel
    obtain ⟨hc, hbt, hnm⟩ := HJ.out _ _ _ hj
    have hd := hbt.drop (k := p) (by rw [HN.out]; exact hp)
    cases hg : getFrame (L.drop p) with
    | none =>
      have hend := hsf.stop hg
      by_cases hcp : c = p
      · rw [if_pos hcp] at hd
        subst hcp
        rw [Nat.sub_self] at hd
        gi_wp2_with (refine ⟨trivial, ?_⟩; gi_at_call 117; refine (callsIn_wide.2 (firstFrame_any _ _ wr hnm hd)).mono ?_; rintro e w1 ⟨v1, k1, rfl, hb1, hq⟩; rw [hg])
        refine bodyPost_ret (results_none rfl _ _ _) rfl ?_
        exact ⟨⟨_, rfl⟩, wr, by rw [hend.1, hend.2]; exact hj, hb1⟩
      · rw [if_neg hcp] at hd
        gi_wp2_with (refine ⟨trivial, ?_⟩; gi_at_call 117; refine (callsIn_wide.2 (firstFrame_any _ _ wr hnm hd)).mono ?_; rintro e w1 ⟨v1, k1, rfl, hb1, hq⟩; rw [hg])
        refine bodyPost_ret (results_none rfl _ _ _) rfl ?_
        exact ⟨⟨_, rfl⟩, wr, by rw [hend.1, hend.2]; exact hj, hb1⟩
    | some q =>
      obtain ⟨l', k⟩ := q
      have hlen := getFrame_len hg
      rw [List.length_drop, HN.out] at hlen
      have hstep := hsf.step hg
      by_cases hcp : c = p
      · rw [if_pos hcp] at hd
        subst hcp
        rw [Nat.sub_self] at hd
        gi_wp2_with (first
          | (refine ⟨trivial, ?_⟩; gi_at_call 117; refine (callsIn_wide.2 (firstFrame_any _ _ wr hnm hd)).mono ?_; rintro e w1 ⟨v1, k1, rfl, hb1, hq⟩; obtain ⟨rfl, hor⟩ := hq l' k hg; rw [hg]; obtain ⟨fn, tmps, assign, body, hy, hR⟩ := HY.out done _ l' k v1 wr w1 hj hsf hg hb1 hor))
        refine hR.mono ?_
        rintro e W3 ⟨rfl, hJ3⟩
        gi_wp2
        go_roundw
        case rel => exact ⟨_, _, int_eq (by omega), by omega, hstep, hJ3⟩
        case measure => simp [intOf]; omega
      · rw [if_neg hcp] at hd
        gi_wp2_with (first
          | (refine ⟨trivial, ?_⟩; gi_at_call 117; refine (callsIn_wide.2 (firstFrame_any _ _ wr hnm hd)).mono ?_; rintro e w1 ⟨v1, k1, rfl, hb1, hq⟩; obtain ⟨rfl, hor⟩ := hq l' k hg; rw [hg]; obtain ⟨fn, tmps, assign, body, hy, hR⟩ := HY.out done _ l' k v1 wr w1 hj hsf hg hb1 hor))
        refine hR.mono ?_
        rintro e W3 ⟨rfl, hJ3⟩
        gi_wp2
        go_roundw
        case rel => exact ⟨_, _, int_eq (by omega), by omega, hstep, hJ3⟩
        case measure => simp [intOf]; omega
end Go.Proofs.YtkefbmbjkijilaaGreatDoor
/- Fh -/
set_option linter.unusedVariables false
namespace Go.Proofs.YtkefbmbjkijilaaGreatDoor
open Go.RowKit Go.Shelf

attribute [local go_sem] Oper.semAt_some

theorem wholeFrames_any (A : Option Addr) (n c : Nat) (w : World) :
    Calls Tryz.prog 98 #[.slice A n c] w fun e w' => e = .returned (.func (.func 116) #[] #[.pointer (some ⟨w.heap.size, 0, none⟩)]) ∧ w' = w.alloc (.cells #[.slice A n c] 33) := by
  go_enter Tryz.func98, Tryz.ntmps98
  go_wp2
  go_ret
  exact ⟨rfl, rfl⟩

theorem OS.aside {w w' : World} {B b : Nat} {v : Value} {ls : List (List RecD)} (h : OS w B v ls) (hg : w.grownBy w' (some b))
    (hb : ∀ cs fr, w.heap[b]? ≠ some (.cells cs 93 fr)) (hb' : ∀ cs fr, w.heap[b]? ≠ some (.cells cs 96 fr)) : OS w' B v ls := by
  obtain ⟨vs, h1, h2⟩ := h
  refine ⟨vs, h1.kept hg ?_, (Seg.keeps (Keeps.of_grownE hg) (fun i u r hi hr e => ?_) h2).top hg.size⟩
  · rcases h1.2 with ⟨rfl, _⟩ | ⟨g, cap, cur, rfl, _, hh, _⟩
    · exact .inl rfl
    · refine .inr fun e => ?_
      obtain rfl : g = b := by simpa [Value.ownBlock] using e
      exact hb _ _ hh
  · obtain ⟨u', e', ho⟩ := h2.at_ (i := i) (by rw [← h2.len]; exact (List.getElem?_eq_some_iff.1 hi).1)
    rw [hi] at e'
    cases e'
    obtain rfl : b = r := by simpa using e
    rcases ho.2 with ⟨rfl, _⟩ | ⟨g', cap', cur', rfl, _, hh', _⟩
    · simp [Value.ownBlock] at hr
    · obtain rfl : g' = b := by simpa [Value.ownBlock] using hr
      exact hb' _ _ hh'
theorem boxed_none {W : World} {B : Nat} {t e : TypeId} {v : Value} (h : Boxed W B t v) (hte : t ≠ e) : ∀ cs fr, W.heap[B]? ≠ some (.cells cs e fr) := fun cs fr hh => by
  have := (show W.heap[B]? = _ from h).symm.trans hh
  injection this with this
  injection this with _ h2 _
  exact hte h2
theorem OS.set_box {w : World} {B b : Nat} {t : TypeId} {v x : Value} {ls : List (List RecD)} (h : OS w B v ls) (hb : Boxed w b t x) (h1 : t ≠ 93) (h2 : t ≠ 96) (y : Value) : OS (w.setCell ⟨b, 0, none⟩ y) B v ls :=
  h.aside (grownBy_setCell' w b y) (boxed_none hb h1) (boxed_none hb h2)
theorem OS.put_loop {w : World} {B b : Nat} {v : Value} {rc : Loop} {ls : List (List RecD)} (h : OS w B v ls) (hb : w.heap[b]? = some (.loop rc)) (o : Obj) : OS (w.putObj b o) B v ls :=
  h.aside (grownBy_putObj' w b o) (fun cs fr e => by rw [hb] at e; cases e) (fun cs fr e => by rw [hb] at e; cases e)
theorem OS.put_deferred {w : World} {B b : Nat} {v : Value} {ds : Option (List Deferred)} {ls : List (List RecD)} (h : OS w B v ls) (hb : w.heap[b]? = some (.deferred ds)) (o : Obj) : OS (w.putObj b o) B v ls :=
  h.aside (grownBy_putObj' w b o) (fun cs fr e => by rw [hb] at e; cases e) (fun cs fr e => by rw [hb] at e; cases e)
theorem boxed_below {W W' : World} {B n : Nat} {t : TypeId} {v : Value} (h : Boxed W B t v) (hb : Below n W W') (hB : B < n) : Boxed W' B t v := (hb.block B hB).trans h

/-- ReadFrames under way: S, the heap's size when it began; two variables in boxes; the iterator's own; the loop's two blocks. -/
structure Walked (w : World) (bv : Value) (rc : Loop) (done : List (List RecD)) (p : Nat) (W : World) : Prop where
  K : Below w.heap.size w W
  lists : ∃ v, Boxed W (w.heap.size + 1) 67 v ∧ OS W w.heap.size v done
  size : Boxed W (w.heap.size + 2) 2 (.int .i64 p)
  arg : Boxed W (w.heap.size + 3) 33 bv
  defs : W.heap[w.heap.size + 4]? = some (.deferred (some []))
  loop : W.heap[w.heap.size + 5]? = some (.loop rc)
theorem Walked.z {w W : World} {bv : Value} {rc : Loop} {done : List (List RecD)} {p : Nat} (h : Walked w bv rc done p W) : w.heap.size + 5 < W.heap.size := (Array.getElem?_eq_some_iff.1 h.loop).1
theorem Walked.below {w W W' : World} {bv : Value} {rc : Loop} {done : List (List RecD)} {p : Nat} (h : Walked w bv rc done p W) (hb : Below W.heap.size W W') : Walked w bv rc done p W' := by
  have hz := h.z
  obtain ⟨v, h1, h2⟩ := h.lists
  exact ⟨h.K.trans (hb.mono h.K.size), ⟨v, boxed_below h1 hb (by omega), h2.below hb⟩, boxed_below h.size hb (by omega), boxed_below h.arg hb (by omega), (hb.block _ (by omega)).trans h.defs, (hb.block _ (by omega)).trans h.loop⟩
/-- The loop's record turned. -/
theorem Walked.turn {w W : World} {bv : Value} {rc : Loop} {done : List (List RecD)} {p : Nat} (h : Walked w bv rc done p W) (rc' : Loop) : Walked w bv rc' done p (W.putObj (w.heap.size + 5) (.loop rc')) := by
  have hz := h.z
  have hg := grownBy_putObj' W (w.heap.size + 5) (.loop rc')
  obtain ⟨v, h1, h2⟩ := h.lists
  exact ⟨h.K.grown hg h.K.size (fun k e => by cases e; omega), ⟨v, h1.kept hg (by simp), h2.put_loop h.loop _⟩, h.size.kept hg (by simp), h.arg.kept hg (by simp), (World.putObj_heap_other (by omega)).trans h.defs, World.putObj_heap_same hz⟩
end Go.Proofs.YtkefbmbjkijilaaGreatDoor
/- Fi -/
set_option linter.unusedVariables false
namespace Go.Proofs.YtkefbmbjkijilaaGreatDoor
open Go.RowKit Go.Shelf

attribute [local go_sem] Oper.semAt_some

/-- The world as the loop begins. -/
def begun (w : World) (bv : Value) : World := (((w.alloc (.cells #[] 93)).alloc (.cells #[.slice (some ⟨w.heap.size, 0, none⟩) 0 0] 67)).alloc (.cells #[.int .i64 0] 2)).alloc (.cells #[bv] 33)
theorem begun_size (w : World) (bv : Value) : (begun w bv).heap.size = w.heap.size + 4 := by unfold begun; simp
theorem begun_below (w : World) (bv : Value) : Below w.heap.size w (begun w bv) := by
  unfold begun
  exact ((((Below.refl _ w).alloc (Nat.le_refl _) _).alloc (by simp) _).alloc (by simp; omega) _).alloc (by simp; omega) _
theorem Walked.start (w : World) (bv : Value) (rc : Loop) : Walked w bv rc [] 0 (((begun w bv).alloc (.deferred (some []))).alloc (.loop rc)) := by
  have hs := begun_size w bv
  have b1 : Boxed (begun w bv) (w.heap.size + 1) 67 (.slice (some ⟨w.heap.size, 0, none⟩) 0 0) := by
    have := Boxed.new (w.alloc (.cells #[] 93)) 67 (.slice (some ⟨w.heap.size, 0, none⟩) 0 0)
    rw [World.size_alloc] at this
    exact (this.alloc _).alloc _
  have b2 : Boxed (begun w bv) (w.heap.size + 2) 2 (.int .i64 (0 : Nat)) := by
    have := Boxed.new ((w.alloc (.cells #[] 93)).alloc (.cells #[.slice (some ⟨w.heap.size, 0, none⟩) 0 0] 67)) 2 (.int .i64 0)
    rw [World.size_alloc, World.size_alloc] at this
    exact this.alloc _
  have b3 : Boxed (begun w bv) (w.heap.size + 3) 33 bv := by
    have := Boxed.new (((w.alloc (.cells #[] 93)).alloc (.cells #[.slice (some ⟨w.heap.size, 0, none⟩) 0 0] 67)).alloc (.cells #[.int .i64 0] 2)) 33 bv
    rw [World.size_alloc, World.size_alloc, World.size_alloc] at this
    exact this
  have o1 : OS (begun w bv) w.heap.size (.slice (some ⟨w.heap.size, 0, none⟩) 0 0) [] :=
    (((OS.empty (Nat.le_refl _)).below ((Below.refl _ _).alloc (Nat.le_refl _) _)).below ((Below.refl _ _).alloc (Nat.le_refl _) _)).below ((Below.refl _ _).alloc (Nat.le_refl _) _)
  have k := begun_below w bv
  generalize begun w bv = W at *
  have x1 := (Below.refl W.heap.size W).alloc (Nat.le_refl _) (.deferred (some []))
  have x2 := x1.alloc (by simp) (.loop rc)
  refine ⟨k.trans (x2.mono (by omega)), ⟨_, (b1.alloc _).alloc _, o1.below x2⟩, (b2.alloc _).alloc _, (b3.alloc _).alloc _, ?_, ?_⟩
  · rw [← hs]
    exact (Below.heap_alloc _ _ _ (by simp)).trans (World.alloc_heap_new W _)
  · have := World.alloc_heap_new (W.alloc (.deferred (some []))) (.loop rc)
    rw [World.size_alloc, hs] at this
    exact this

/-- The statement 'for .. := range g', g a function of the program with what it has captured, at the wide fence: what is owed is the function's call at yield, the loop's record rc laid. -/
theorem range_wide {P : Program} {n : Nat} {g : Operand} {ps : Array Tmp} {assign body : Code} {Q : Exit → Act → World → Prop} {a : Act} {w : World} {gf : Nat} {lb : Array Value}
    (h1 : 1 ≤ n) (hg : a.eval g = .func (.func gf) #[] lb) (eg : ∀ args w, (callFunc gf args).run P w = .ok (.enter gf args) w)
    (hcall : ∀ (fn : FuncId) (rc : LoopState → Loop), rc = (fun st => { state := st, pending := none, fn, tmps := a.tmps, params := ps, assign, body, defers := w.heap.size }) →
      CallsIn Fence.wide (n - 1) P gf (#[.func (.yield (w.heap.size + 1)) #[] #[]] ++ lb) ((w.alloc (.deferred (some []))).alloc (.loop (rc .ready)))
        (rangePost Fence.wide n P (w.heap.size + 1) Q { a with defers := { target := .collected w.heap.size, args := #[] } :: a.defers })) :
    (Code.rangeFunc g ps assign body).wpIn Fence.wide n P Q a w := by
  refine wpIn_rangeFunc fun fn _ => ?_
  have hc := hcall fn _ rfl
  refine ⟨_, _, _, { target := .fn (.func gf) lb, args := #[.func (.yield (w.heap.size + 1)) #[] #[]] }, (w.alloc (.deferred (some []))).alloc (.loop { state := .ready, pending := none, fn, tmps := a.tmps, params := ps, assign, body, defers := w.heap.size }), gf, _, _, run_enterLoop_outer _ _ _ _ _, ?_, fun _ _ => trivial, ?_, fun _ => h1, hc⟩
  · simp only [resolve, hg]
    simp [go_sem]
  · simp [invoke, go_sem, eg]

theorem Seg.put {w : World} {T B b : Nat} {o : Obj} {vs : List Value} {ls : List (List RecD)} (h : Seg w B T vs ls) (hb : w.heap[b]? = some o) (ho : o.isCells = false) (o' : Obj) : Seg (w.putObj b o') B T vs ls := by
  refine Seg.keeps (Keeps.of_grownE (grownBy_putObj' w b o')) (fun i u r hi hr e => ?_) h
  obtain ⟨u', e', hor⟩ := h.at_ (i := i) (by rw [← h.len]; exact (List.getElem?_eq_some_iff.1 hi).1)
  rw [hi] at e'
  cases e'
  obtain rfl : b = r := by simpa using e
  rcases hor.2 with ⟨rfl, _⟩ | ⟨g', cap', cur', rfl, _, hh', _⟩
  · simp [Value.ownBlock] at hr
  · obtain rfl : g' = b := by simpa [Value.ownBlock] using hr
    rw [hb] at hh'
    cases hh'
    cases ho

theorem row_not_obj {w : World} {B n k b : Nat} {e : TypeId} {v : Value} {vs : List Value} {o : Obj} (h : w.ownsRow B e k v n vs) (hb : w.heap[b]? = some o) (ho : o.isCells = false) : some b ≠ v.ownBlock := fun e' => by
  rcases h.2 with ⟨rfl, _⟩ | ⟨g, cap, cur, rfl, _, hh, _⟩
  · simp [Value.ownBlock] at e'
  · obtain rfl : b = g := by simpa [Value.ownBlock] using e'
    rw [hb] at hh
    cases hh
    cases ho
/-- A list more. -/
theorem Walked.push {w W w4 : World} {bv s u v' : Value} {rb : Loop} {done : List (List RecD)} {l' : List RecD} {vs : List Value} {p T : Nat} {q : Int} (h : Walked w bv rb done p W) (hs : Boxed W (w.heap.size + 1) 67 s)
    (hr : W.ownsRow w.heap.size 93 1 s done.length vs) (hS : Seg W w.heap.size T vs done) (hT : T ≤ W.heap.size) (hu : OR W T u l')
    (hg : (W.alloc (.cells #[u] 93)).grownBy w4 s.ownBlock) (ho : w4.ownsRow w.heap.size 93 1 v' (done.length + 1) (vs ++ [u])) {p' : Nat} (hq : q = (p' : Nat)) :
    Walked w bv rb (done ++ [l']) p' ((w4.setCell ⟨w.heap.size + 1, 0, none⟩ v').setCell ⟨w.heap.size + 2, 0, none⟩ (.int .i64 q)) := by
  subst hq
  have hz := h.z
  have o4 := OS.push hr hS hT hu ((Keeps.of_below ((Below.refl _ _).alloc (Nat.le_refl _) _)).trans (Keeps.of_grownE hg)) ho
  have b1 : Boxed w4 (w.heap.size + 1) 67 s := (hs.alloc _).kept hg (hs.not_row (by decide) hr)
  have b2 : Boxed w4 (w.heap.size + 2) 2 (.int .i64 p) := (h.size.alloc _).kept hg (h.size.not_row (by decide) hr)
  have b3 : Boxed w4 (w.heap.size + 3) 33 bv := (h.arg.alloc _).kept hg (h.arg.not_row (by decide) hr)
  have k4 : Below w.heap.size w w4 := (h.K.alloc h.K.size _).grown hg (by simp; omega) (fun r e => (World.ownsRow.lt hr r e).1)
  have d4 : w4.heap[w.heap.size + 4]? = some (.deferred (some [])) :=
    (hg.block _ (by simp; omega) (row_not_obj hr h.defs rfl)).trans ((Below.heap_alloc _ _ _ (by omega)).trans h.defs)
  have l4 : w4.heap[w.heap.size + 5]? = some (.loop rb) :=
    (hg.block _ (by simp; omega) (row_not_obj hr h.loop rfl)).trans ((Below.heap_alloc _ _ _ (by omega)).trans h.loop)
  have g1 := grownBy_setCell' w4 (w.heap.size + 1) v'
  have o5 := o4.set_box b1 (by decide) (by decide) v'
  have b15 := b1.set v'
  have b25 := b2.kept g1 (by simp)
  have b35 := b3.kept g1 (by simp)
  have d5 := (Below.heap_setCell w4 ⟨w.heap.size + 1, 0, none⟩ v' (w.heap.size + 4) (by simp)).trans d4
  have l5 := (Below.heap_setCell w4 ⟨w.heap.size + 1, 0, none⟩ v' (w.heap.size + 5) (by simp)).trans l4
  have k5 := k4.setCell (p := ⟨w.heap.size + 1, 0, none⟩) (by simp) v'
  generalize w4.setCell ⟨w.heap.size + 1, 0, none⟩ v' = w5 at *
  have g2 := grownBy_setCell' w5 (w.heap.size + 2) (.int .i64 (p' : Nat))
  exact ⟨k5.setCell (p := ⟨w.heap.size + 2, 0, none⟩) (by simp) _, ⟨v', b15.kept g2 (by simp), o5.set_box b25 (by decide) (by decide) _⟩, b25.set _, b35.kept g2 (by simp),
    (Below.heap_setCell w5 ⟨w.heap.size + 2, 0, none⟩ _ (w.heap.size + 4) (by simp)).trans d5, (Below.heap_setCell w5 ⟨w.heap.size + 2, 0, none⟩ _ (w.heap.size + 5) (by simp)).trans l5⟩

theorem Walked.over {P : Program} {w W : World} {bv : Value} {rc : Loop} {done : List (List RecD)} {p : Nat} (h : Walked w bv rc done p W) (hs : rc.state ≠ .busy) (hp : rc.pending = none) :
    ∃ rx w4, (Instr.endLoop (w.heap.size + 5)).run P W = .ok none w4 ∧ Walked w bv rx done p w4 := by
  have he := run_endLoop (P := P) h.loop hs
  rw [hp] at he
  exact ⟨_, _, he, h.turn _⟩

set_option maxRecDepth 100000 in
set_option maxHeartbeats 4000000 in
theorem readFrames_any (v : Value) (L : List Nat) (w : World) (hN : Names w) (h : Bt w w.heap.size v L) (hsz : L.length ≤ 4194304) :
    Calls Tryz.prog 55 #[v] w (ReadAll L w) := by
  have H := Lib.hid h
  have HNM := Lib.hid hN
  obtain ⟨⟨A, c, rfl, -, -⟩, -, -⟩ := h
  obtain ⟨i0, hi, hz0, hz1, hz2⟩ := info_parts info_recs
  have HI := Lib.hid hi
  have HZ0 := Lib.hid hz0
  have HZ1 := Lib.hid hz1
  have HZ2 := Lib.hid hz2
  clear hi hz0 hz1 hz2 hN
  have h1 : (1 : Nat) ≤ 3 := by decide
  refine (callsIn_wide (n := 3)).1 ?_
  refine callsIn_of_wp_marks Tryz.func55 rfl trivial ?_ rfl
  simp only [Tryz.ntmps55, List.size_toArray, List.length_cons, List.length_nil, Nat.reduceAdd, Nat.reduceSub, Array.replicate_succ, Array.replicate_zero, List.push_toArray, List.append_toArray, List.nil_append, List.cons_append]
  gi_wp2_with (refine ⟨trivial, ?_⟩; gi_at_call 98; refine (callsIn_wide.2 (wholeFrames_any A L.length c _)).mono ?_; rintro e w' ⟨rfl, rfl⟩)
  have hst := Walked.start w (.slice A L.length c)
  have hbs := begun_size w (.slice A L.length c)
  have hbb := begun_below w (.slice A L.length c)
  unfold begun at hst hbs hbb
  obtain ⟨W, hW⟩ : ∃ W, (((w.alloc (.cells #[] 93)).alloc (.cells #[.slice (some ⟨w.heap.size, 0, none⟩) 0 0] 67)).alloc (.cells #[.int .i64 0] 2)).alloc (.cells #[.slice A L.length c] 33) = W := ⟨_, rfl⟩
  rw [hW] at hst hbs hbb ⊢
  clear hW
  have HST := Lib.hid hst
  clear hst
  refine range_wide h1 (gf := 116) (lb := #[.pointer (some ⟨w.heap.size + 3, 0, none⟩)]) rfl (enters_of Tryz.func116 (by kernel_rfl) rfl) ?_
  intro fn rc hrc
  rw [hbs, show w.heap.size + 4 + 1 = w.heap.size + 5 from rfl]
  refine (whole1_in (3 - 1) (w.heap.size + 5) (w.heap.size + 3) c (by decide) A L (Walked w (.slice A L.length c) (rc .ready)) ?hJ ?hY _ (HST.out _)).mono ?post
  case hJ => exact fun done p W' hj => ⟨hj.arg.cell, (H.out.below hj.K (Nat.le_refl _)).more hj.K.size, HNM.out.go hj.K⟩
  case hY =>
    intro done p l' k u W0 W1 hj hsf hg hb hor
    have hw1 := hj.below hb
    have hstep := hsf.step hg
    have hlen1 : done.length + 1 ≤ 4194304 := by have := hstep.short; have := hstep.le; simp at *; omega
    have hp64 : (p : Int) + (k : Int) ≤ 4194304 := by have := hstep.le; omega
    obtain ⟨s, bs, vs, r1, sg⟩ := hj.lists
    have r2 := ownsRow_below r1 hb
    have sg2 := sg.below hb
    have T1 : W0.heap.size ≤ W1.heap.size := hb.size
    have bs2 := boxed_below bs hb (by have := hj.z; omega)
    have hy := run_yield (P := Tryz.prog) (args := #[u, .int .i64 ((p : Int) + (k : Int))]) hw1.loop (by rw [hrc]; rfl)
    have hrr := hw1.loop
    rw [hrc] at hy
    have HRC := Lib.hid hrc
    clear hrc
    refine ⟨fn, _, _, _, hy, roundIn_of_wpIn trivial ?_⟩
    clear hy
    gi_wp2
    refine ⟨_, run_beginRound hrr (by rw [HRC.out]), ?_⟩
    obtain ⟨rb, hrb⟩ : ∃ rb : Loop, { rc .ready with state := .busy } = rb := ⟨_, rfl⟩
    rw [hrb]
    have HRB := Lib.hid hrb
    clear hrb
    have hw2 := hw1.turn rb
    have r3 := ownsRow_putObj r2 (.loop rb) hrr rfl
    have sg3 := sg2.put hrr rfl (.loop rb)
    have hor3 : OR (W1.putObj (w.heap.size + 5) (.loop rb)) W0.heap.size u l' := ownsRow_putObj hor (.loop rb) hrr rfl
    have bs3 : Boxed (W1.putObj (w.heap.size + 5) (.loop rb)) (w.heap.size + 1) 67 s := bs2.kept (grownBy_putObj' _ _ _) (by simp)
    have T2 : W0.heap.size ≤ (W1.putObj (w.heap.size + 5) (.loop rb)).heap.size := by rw [World.putObj_size]; exact T1
    obtain ⟨A2, c2, g2, rfl, -⟩ := hor.open_
    generalize W1.putObj (w.heap.size + 5) (.loop rb) = W2 at *
    have h63 : Hid (done.length + 1 ≤ maxLen) := Lib.hid (by unfold maxLen; omega)
    have hby : Hid ((done.length + 1) * 24 ≤ 140737488355328) := Lib.hid (by omega)
    have b53 := hw2.size
    have hc4 := bs3.cell
    have HR3 := Lib.hid r3
    have HB3 := Lib.hid bs3
    have HB5 := Lib.hid b53
    have HS3 := Lib.hid sg3
    have HU3 := Lib.hid hor3
    have HW2 := Lib.hid hw2
    clear hor hor3 r1 r2 r3 sg sg2 sg3 bs bs2 bs3 b53 hj hw1 hw2 hrr
    gi_wp2_with (gi_at_builtin; refine wpListIn_append_own _ rfl _ _ 67 rfl w.heap.size 93 i0 (.slice none 0 0) 1 24 Tryz.underlying67 HI.out HZ0.out HZ1.out HZ2.out rfl (by decide) _ _ _ rfl (HR3.out.alloc _) ⟨W2.heap.size, 0, none⟩ 1 1 [.slice A2 l'.length c2] rfl rfl (cell_one_new _ _ _) (fun x hx => by simp at hx; subst hx; rfl) h63.out hby.out (by have := HW2.out.z; simp; omega) ?_; intro v' w4 hown' hgrow0 hnil; have hgrow : World.grownBy (W2.alloc (.cells #[.slice A2 l'.length c2] 93)) w4 s.ownBlock := hgrow0; clear hgrow0 hnil; obtain ⟨g', cap', rfl⟩ := ownsRow_succ hown'; have b4 : Boxed w4 (w.heap.size + 1) 67 s := (HB3.out.alloc _).kept hgrow (HB3.out.not_row (by decide) HR3.out); have b5 : Boxed w4 (w.heap.size + 1 + 1) 2 (.int .i64 p) := (HB5.out.alloc _).kept hgrow (HB5.out.not_row (by decide) HR3.out); have hc1 := b4.cell; have hf1 := b4.frozen; have hc2 := b5.cell; have hf2 := b5.frozen; have HB4 := Lib.hid b4; have HB6 := Lib.hid b5; have HO := Lib.hid hown'; have HG := Lib.hid hgrow; clear hown' hgrow b4 b5)
    have hw5 := HW2.out.push (q := (p : Int) + (k : Int)) (p' := p + k) HB3.out HR3.out HS3.out T2 HU3.out HG.out HO.out (by omega)
    refine ⟨_, _, run_endRound none hw5.loop, rfl, ?_⟩
    have hw6 := hw5.turn (rc .ready)
    rw [← HRB.out]
    rw [HRC.out] at hw6 ⊢
    exact hw6
  case post =>
    rintro e w' ⟨⟨v0, rfl⟩, W0, hj, hb⟩
    have hj1 := hj.below hb
    obtain ⟨rx, w4, hend, hj2⟩ := hj1.over (P := Tryz.prog) (by rw [hrc]; simp) (by rw [hrc])
    refine ⟨none, w4, hend, ?_⟩
    clear hend hj hj1 hb HST hrc
    obtain ⟨s, b1, o1⟩ := hj2.lists
    have hc1 := b1.cell
    have b2 : Boxed w4 (w.heap.size + 1 + 1) 2 (.int .i64 ((framesN L).2 : Nat)) := hj2.size
    have hc2 := b2.cell
    have hdef := hj2.defs
    have HJ := Lib.hid hj2
    have HO := Lib.hid o1
    clear hj2 o1 b1 b2
    gi_wp2
    gi_region
    have HJ2 : Below w.heap.size w w4.drew := HJ.out.K.drew
    have HO2 : OS w4.drew w.heap.size s (framesN L).1 := HO.out.below (Below.refl _ _).drew
    have hd2 : w4.drew.heap[w.heap.size + 4]? = some (.deferred (some [])) := hdef
    generalize w4.drew = w5 at *
    gi_wp2
    refine ⟨by simp, .inl ⟨_, _, rfl, run_takeDeferred hd2, ?_⟩⟩
    exact ⟨_, results_tmp2 rfl _ _ _, s, rfl, HO2.put_deferred hd2 _, HJ2.grown (grownBy_putObj' w5 (w.heap.size + 4) _) HJ2.size (fun k e => by cases e; omega)⟩
end Go.Proofs.YtkefbmbjkijilaaGreatDoor
/- Da -/
set_option linter.unusedVariables false
namespace Go.Proofs.YtkefbmbjkijilaaGreatDoor
open Go.RowKit

/-- Block g holds just cs, all writable. -/
structure Blk (w : World) (g : Nat) (cs : Array Value) : Prop where
  z : g < w.heap.size
  C : ∀ o, w.cell? ⟨g, o, none⟩ = cs[o]?
  F : ∀ o, w.frozen? ⟨g, o, none⟩ = false
theorem Blk.new (w : World) (cs : Array Value) (t : TypeId) : Blk (w.alloc (.cells cs t)) w.heap.size cs := ⟨by simp, cell_new w cs t, fun o => frozen_of_row _ _ _ _ _ (heap_alloc_new w _)⟩
theorem Blk.keeps {S : Nat → Prop} {w w' : World} {g : Nat} {cs : Array Value} (h : Blk w g cs) (k : Keeps S w w') (hn : ¬ S g) : Blk w' g cs :=
  ⟨Nat.lt_of_lt_of_le h.z k.size, fun o => (k.cell (p := ⟨g, o, none⟩) h.z hn).trans (h.C o), fun o => (k.frozen (p := ⟨g, o, none⟩) h.z hn).trans (h.F o)⟩
theorem Blk.below {w w' : World} {g : Nat} {cs : Array Value} (h : Blk w g cs) (hb : Below w.heap.size w w') : Blk w' g cs := h.keeps (S := fun _ => False) (Keeps.of_below hb) id
theorem Blk.alloc {w : World} {g : Nat} {cs : Array Value} (h : Blk w g cs) (o : Obj) : Blk (w.alloc o) g cs := h.below ((Below.refl _ _).alloc (Nat.le_refl _) _)
theorem Blk.set {w : World} {g : Nat} {cs : Array Value} (h : Blk w g cs) {i : Nat} (hi : i < cs.size) (v : Value) : Blk (w.setCell ⟨g, i, none⟩ v) g (cs.setIfInBounds i v) :=
  ⟨by simpa [World.setCell] using h.z, fun o => by
    by_cases e : o = i
    · subst e
      rw [World.cell?_setCell_same _ _ _ ((h.C o).trans (Array.getElem?_eq_getElem hi))]
      simp [hi]
    · rw [World.cell?_setCell_other _ _ _ _ (fun he => e (by injection he with _ h2 _; exact h2.symm)), h.C o, Array.getElem?_setIfInBounds_ne (fun he => e he.symm)],
   fun o => by rw [World.frozen?_setCell]; exact h.F o⟩

theorem Keeps.far {S : Nat → Prop} {w w' : World} (h : Keeps S w w') {p : Addr} (hp : w.heap.size ≤ p.block) (v : Value) : Keeps S w (w'.setCell p v) :=
  ⟨h.os, h.tape, h.output, by simpa [World.setCell] using h.size, fun b hb hn => (Below.heap_setCell _ _ _ _ (fun e => by omega)).trans (h.block b hb hn)⟩
theorem Keeps.alloc {S : Nat → Prop} {w w' : World} (h : Keeps S w w') (o : Obj) : Keeps S w (w'.alloc o) := h.trans (Keeps.of_below ((Below.refl _ _).alloc (Nat.le_refl _) o))
theorem Cur.far {T : TypeId} {k : IntKind} {w : World} {g : Nat} (h : Cur T k w g) {p : Addr} (hp : g < p.block) (v : Value) : Cur T k (w.setCell p v) g :=
  h.keeps (S := (· = p.block)) ((Keeps.refl (· = p.block) w).set (p := p) rfl v) (fun b hb e => by have e : b = p.block := e; omega)
theorem Cur.alloc {T : TypeId} {k : IntKind} {w : World} {g : Nat} (h : Cur T k w g) (o : Obj) : Cur T k (w.alloc o) g := h.below ((Below.refl _ _).alloc (Nat.le_refl _) o)

end Go.Proofs.YtkefbmbjkijilaaGreatDoor
/- Dm -/
set_option linter.unusedVariables false
namespace Go.Proofs.YtkefbmbjkijilaaGreatDoor
open Go.RowKit

def noByte : Value → Bool
  | .int .u8 _ => false
  | _ => true
theorem keepsRow_ (W : World) (g : Nat) (cs : Array Value) : Keeps (· = g) W (W.setRow g cs) := ⟨rfl, rfl, rfl, by simp, fun b hb hn => setRow_other W g b cs hn⟩
theorem Cur.row {T T' : TypeId} {k : IntKind} {w : World} {g B : Nat} {cs : Array Value} (h : Cur T k w g) (hb : w.heap[B]? = some (.cells cs T' (0, 0))) (hs : cs.all noByte = true) (hne : ¬ B = g) (cs' : Array Value) : Cur T k (w.setRow B cs') g := by
  have kk := keepsRow_ w B cs'
  have hlt := h.lt
  obtain ⟨A, n, c, i, hh, hg, i0, i1, hm, hB⟩ := h
  refine ⟨A, n, c, i, hh, (kk.block g hlt (by show ¬ g = B; omega)).trans hg, i0, i1, hm, fun hn => ?_⟩
  obtain ⟨b, off, rfl, hbl, hc⟩ := hB hn
  have hbB : ¬ b = B := by
    rintro rfl
    obtain ⟨z, hz, -⟩ := hc 0 hn
    rw [cell_of_row _ _ _ _ _ _ hb] at hz
    have := Array.all_eq_true.1 hs (off + 0) (Array.getElem?_eq_some_iff.1 hz).1
    rw [(Array.getElem?_eq_some_iff.1 hz).2] at this
    simp [noByte] at this
  exact ⟨b, off, rfl, hbl, fun j hj => by
    obtain ⟨z, hz, hr⟩ := hc j hj
    exact ⟨z, (kk.cell (p := ⟨b, off + j, none⟩) (by show b < w.heap.size; omega) hbB).trans hz, hr⟩⟩
/-- A box of the call's own is written whole. -/
theorem belowRow_ {w W : World} (h : Below w.heap.size w W) {B : Nat} (hB : w.heap.size ≤ B) (cs : Array Value) : Below w.heap.size w (W.setRow B cs) :=
  h.trans ((keepsRow_ W B cs).below (B := w.heap.size) h.size (by rintro b hb rfl; omega))
theorem Blk.row {W : World} {g B : Nat} {cs : Array Value} (h : Blk W g cs) (hne : ¬ g = B) (cs' : Array Value) : Blk (W.setRow B cs') g cs := h.keeps (keepsRow_ W B cs') hne
theorem Keeps.grown {S : Nat → Prop} {w w1 w2 : World} (h : Keeps S w w1) {row : Option Nat} (hg : w1.grownBy w2 row) (hr : ∀ r, row = some r → w.heap.size ≤ r) : Keeps S w w2 :=
  ⟨hg.os.trans h.os, hg.tape.trans h.tape, hg.output.trans h.output, Nat.le_trans h.size hg.size, fun b hb hn => (hg.block b (Nat.lt_of_lt_of_le hb h.size) (fun e => by have := hr b e.symm; omega)).trans (h.block b hb hn)⟩
theorem Cur.grown {T : TypeId} {k : IntKind} {w w' : World} {g : Nat} (h : Cur T k w g) {row : Option Nat} (hg : w.grownBy w' row) (hr : ∀ r, row = some r → g < r) : Cur T k w' g :=
  h.keeps (S := fun b => row = some b) ⟨hg.os, hg.tape, hg.output, hg.size, fun b hb hn => hg.block b hb (fun e => hn e.symm)⟩ (fun b hb e => by have := hr b e; omega)
theorem OR.keep {S : Nat → Prop} {w w' : World} {B : Nat} {v : Value} {l : List RecD} (h : OR w B v l) (hk : Keeps S w w') (hS : ∀ r, B ≤ r → ¬ S r) : OR w' B v l := by
  obtain ⟨hl, ho⟩ := h
  refine ⟨hl, ho.imp id ?_⟩
  rintro ⟨g, cap, cur, hv, hb', hh, rest⟩
  exact ⟨g, cap, cur, hv, hb', (hk.block g (Array.getElem?_eq_some_iff.1 hh).1 (hS g hb')).trans hh, rest⟩
end Go.Proofs.YtkefbmbjkijilaaGreatDoor
