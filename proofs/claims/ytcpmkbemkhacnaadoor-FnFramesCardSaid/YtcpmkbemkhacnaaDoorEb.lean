/-
  Lists of lists of records: where they lie; the call's own.
-/
import Derived.Test.YtcpmkbemkhacnaaDoorBa
set_option linter.unusedVariables false
namespace Go.Proofs.YtcpmkbemkhacnaaDoor
open Go.RowKit

theorem info_recs : (Tryd.prog.info? 31).map (fun i => (i.zero, i.size, i.bytes)) = some (some (.slice none 0 0), 1, 24) := by kernel_rfl
def listAt (ls : List (List RecD)) (i : Nat) : List RecD := ls.getD i []
theorem listAt_snoc (ls : List (List RecD)) (l : List RecD) (i : Nat) : listAt (ls ++ [l]) i = if i = ls.length then l else listAt ls i := by
  unfold listAt
  by_cases h : i < ls.length
  · rw [if_neg (by omega)]
    simp [List.getD, List.getElem?_append_left h]
  · by_cases e : i = ls.length
    · subst e; simp [List.getD]
    · rw [if_neg e]
      simp only [List.getD]
      rw [List.getElem?_eq_none (by simp; omega), List.getElem?_eq_none (by omega)]
/-- A slice of the lists ls, lying below block B. -/
structure St (w : World) (B : Nat) (v : Value) (ls : List (List RecD)) : Prop where
  it : ∃ A c, v = .slice A ls.length c ∧ (0 < ls.length → ∃ b off, A = some ⟨b, off, none⟩ ∧ b < B ∧ ∀ i, i < ls.length → ∃ u, w.cell? ⟨b, off + i, none⟩ = some u ∧ Rt w B u (listAt ls i))
  len : ls.length ≤ maxLen
theorem St.below {w w' : World} {B B' : Nat} {v : Value} {ls : List (List RecD)} (h : St w B v ls) (hb : Below B' w w') (hB : B ≤ B') : St w' B v ls := by
  obtain ⟨⟨A, c, rfl, hc⟩, hl⟩ := h
  refine ⟨⟨A, c, rfl, fun hn => ?_⟩, hl⟩
  obtain ⟨b, off, rfl, hlt, hc⟩ := hc hn
  refine ⟨b, off, rfl, hlt, fun i hi => ?_⟩
  obtain ⟨u, hu, hr⟩ := hc i hi
  exact ⟨u, (hb.cell (p := ⟨b, off + i, none⟩) (by show b < B'; omega)).trans hu, hr.below hb hB⟩
theorem St.more {w : World} {B B' : Nat} {v : Value} {ls : List (List RecD)} (h : St w B v ls) (hB : B ≤ B') : St w B' v ls := by
  obtain ⟨⟨A, c, rfl, hc⟩, hl⟩ := h
  refine ⟨⟨A, c, rfl, fun hn => ?_⟩, hl⟩
  obtain ⟨b, off, rfl, hlt, hc⟩ := hc hn
  refine ⟨b, off, rfl, by omega, fun i hi => ?_⟩
  obtain ⟨u, hu, hr⟩ := hc i hi
  exact ⟨u, hu, hr.more hB⟩
theorem St.go {w w' : World} {v : Value} {ls : List (List RecD)} (h : St w w.heap.size v ls) (hb : Below w.heap.size w w') : St w' w'.heap.size v ls := (h.below hb (Nat.le_refl _)).more hb.size
theorem St.cell {w : World} {B : Nat} {A : Option Addr} {n c : Nat} {ls : List (List RecD)} (h : St w B (.slice A n c) ls) {i : Nat} (hi : i < ls.length) :
    ∃ b off u, A = some ⟨b, off, none⟩ ∧ b < B ∧ w.cell? ⟨b, off + i, none⟩ = some u ∧ Rt w B u (listAt ls i) := by
  obtain ⟨⟨A', c', hv, hc⟩, hl⟩ := h
  injection hv with h1 _ _
  subst h1
  obtain ⟨b, off, e, hlt, hc⟩ := hc (by omega)
  obtain ⟨u, hu, hr⟩ := hc i hi
  exact ⟨b, off, u, e, hlt, hu, hr⟩

/-- The slices vs hold the lists ls, in blocks from B to T, each beyond those ahead of it. -/
def Seg (w : World) : Nat → Nat → List Value → List (List RecD) → Prop
  | B, T, [], [] => B ≤ T
  | B, T, v :: vs, l :: ls => ∃ M, B ≤ M ∧ OR w B v l ∧ (∀ r, v.ownBlock = some r → r < M) ∧ Seg w M T vs ls
  | _, _, _, _ => False
theorem Seg.below {w w' : World} {T : Nat} (hb : Below w.heap.size w w') : ∀ {vs : List Value} {ls : List (List RecD)} {B : Nat}, Seg w B T vs ls → Seg w' B T vs ls
  | [], [], _, h => h
  | [], _ :: _, _, h => h.elim
  | _ :: _, [], _, h => h.elim
  | v :: vs, l :: ls, B, ⟨M, h1, h2, h3, h4⟩ => ⟨M, h1, h2.below hb, h3, Seg.below hb h4⟩
theorem Seg.base {w : World} {T : Nat} : ∀ {vs : List Value} {ls : List (List RecD)} {B B' : Nat}, B' ≤ B → Seg w B T vs ls → Seg w B' T vs ls
  | [], [], _, _, hB, h => Nat.le_trans hB h
  | [], _ :: _, _, _, _, h => h.elim
  | _ :: _, [], _, _, _, h => h.elim
  | v :: vs, l :: ls, B, B', hB, ⟨M, h1, h2, h3, h4⟩ => ⟨M, Nat.le_trans hB h1, h2.base hB, h3, h4⟩
theorem Seg.top {w : World} {T T' : Nat} (hT : T ≤ T') : ∀ {vs : List Value} {ls : List (List RecD)} {B : Nat}, Seg w B T vs ls → Seg w B T' vs ls
  | [], [], _, h => Nat.le_trans h hT
  | [], _ :: _, _, h => h.elim
  | _ :: _, [], _, h => h.elim
  | v :: vs, l :: ls, B, ⟨M, h1, h2, h3, h4⟩ => ⟨M, h1, h2, h3, Seg.top hT h4⟩
theorem Seg.len {w : World} {T : Nat} : ∀ {vs : List Value} {ls : List (List RecD)} {B : Nat}, Seg w B T vs ls → vs.length = ls.length
  | [], [], _, _ => rfl
  | [], _ :: _, _, h => h.elim
  | _ :: _, [], _, h => h.elim
  | v :: vs, l :: ls, B, ⟨M, h1, h2, h3, h4⟩ => by rw [List.length_cons, List.length_cons, Seg.len h4]
theorem Seg.snoc {w : World} {T T' : Nat} {v : Value} {l : List RecD} (hv : OR w T v l) (hT : T ≤ T') (ht : ∀ r, v.ownBlock = some r → r < T') :
    ∀ {vs : List Value} {ls : List (List RecD)} {B : Nat}, Seg w B T vs ls → Seg w B T' (vs ++ [v]) (ls ++ [l])
  | [], [], B, h => ⟨T', Nat.le_trans h hT, hv.base h, ht, Nat.le_refl _⟩
  | [], _ :: _, _, h => h.elim
  | _ :: _, [], _, h => h.elim
  | v :: vs, l :: ls, B, ⟨M, h1, h2, h3, h4⟩ => ⟨M, h1, h2, h3, Seg.snoc hv hT ht h4⟩
theorem Seg.at_ {w : World} {T : Nat} : ∀ {vs : List Value} {ls : List (List RecD)} {B i : Nat}, Seg w B T vs ls → i < ls.length → ∃ v, vs[i]? = some v ∧ OR w B v (listAt ls i)
  | [], [], _, _, _, hi => absurd hi (Nat.not_lt_zero _)
  | [], _ :: _, _, _, h, _ => h.elim
  | _ :: _, [], _, _, h, _ => h.elim
  | v :: vs, l :: ls, B, 0, ⟨M, h1, h2, h3, h4⟩, _ => ⟨v, rfl, h2⟩
  | v :: vs, l :: ls, B, i + 1, ⟨M, h1, h2, h3, h4⟩, hi => by
    obtain ⟨v, e, h⟩ := Seg.at_ h4 (i := i) (by simpa using hi)
    exact ⟨v, by simpa using e, by unfold listAt at h ⊢; simpa using h.base h1⟩
theorem Seg.lo {w : World} {T : Nat} : ∀ {vs : List Value} {ls : List (List RecD)} {B i : Nat} {v : Value} {r : Nat}, Seg w B T vs ls → vs[i]? = some v → v.ownBlock = some r → B ≤ r
  | [], [], _, _, _, _, _, hi, _ => by simp at hi
  | [], _ :: _, _, _, _, _, h, _, _ => h.elim
  | _ :: _, [], _, _, _, _, h, _, _ => h.elim
  | v :: vs, l :: ls, B, 0, v', r, ⟨M, h1, h2, h3, h4⟩, hi, hr => by
    obtain rfl : v = v' := by simpa using hi
    exact (h2.lt hr).1
  | v :: vs, l :: ls, B, i + 1, v', r, ⟨M, h1, h2, h3, h4⟩, hi, hr => Nat.le_trans h1 (Seg.lo h4 (i := i) (by simpa using hi) hr)
theorem Seg.apart {w : World} {T : Nat} : ∀ {vs : List Value} {ls : List (List RecD)} {B i j : Nat} {v v' : Value} {r r' : Nat}, Seg w B T vs ls → i < j → vs[i]? = some v → vs[j]? = some v' → v.ownBlock = some r → v'.ownBlock = some r' → r < r'
  | [], [], _, _, _, _, _, _, _, _, _, hi, _, _, _ => by simp at hi
  | [], _ :: _, _, _, _, _, _, _, _, h, _, _, _, _, _ => h.elim
  | _ :: _, [], _, _, _, _, _, _, _, h, _, _, _, _, _ => h.elim
  | v :: vs, l :: ls, B, i, 0, _, _, _, _, _, hij, _, _, _, _ => absurd hij (Nat.not_lt_zero _)
  | v :: vs, l :: ls, B, 0, j + 1, v1, v2, r, r', ⟨M, h1, h2, h3, h4⟩, _, hi, hj, hr, hr' => by
    obtain rfl : v = v1 := by simpa using hi
    exact Nat.lt_of_lt_of_le (h3 r hr) (Seg.lo h4 (i := j) (by simpa using hj) hr')
  | v :: vs, l :: ls, B, i + 1, j + 1, v1, v2, r, r', ⟨M, h1, h2, h3, h4⟩, hij, hi, hj, hr, hr' =>
    Seg.apart h4 (i := i) (j := j) (by omega) (by simpa using hi) (by simpa using hj) hr hr'

/-- A row of lists of the call's own, each in memory of its own. -/
def OS (w : World) (B : Nat) (v : Value) (ls : List (List RecD)) : Prop := ∃ vs, w.ownsRow B 31 1 v ls.length vs ∧ Seg w B w.heap.size vs ls
theorem OS.below {w w' : World} {B : Nat} {v : Value} {ls : List (List RecD)} (h : OS w B v ls) (hb : Below w.heap.size w w') : OS w' B v ls := by
  obtain ⟨vs, h1, h2⟩ := h
  exact ⟨vs, ownsRow_below h1 hb, (h2.below hb).top hb.size⟩
theorem OS.base {w : World} {B B' : Nat} {v : Value} {ls : List (List RecD)} (h : OS w B v ls) (hb : B' ≤ B) : OS w B' v ls := by
  obtain ⟨vs, h1, h2⟩ := h
  exact ⟨vs, ownsRow_base h1 hb, h2.base hb⟩
theorem OS.lt {w : World} {B : Nat} {v : Value} {ls : List (List RecD)} (h : OS w B v ls) {r : Nat} (hr : v.ownBlock = some r) : B ≤ r ∧ r < w.heap.size := by
  obtain ⟨vs, h1, h2⟩ := h
  exact World.ownsRow.lt h1 r hr
theorem OS.len {w : World} {B : Nat} {v : Value} {ls : List (List RecD)} (h : OS w B v ls) : ls.length ≤ maxLen := by
  obtain ⟨vs, h, -⟩ := h
  rcases h.2 with ⟨_, h0⟩ | ⟨g, cap, cur, _, _, _, hnc, hcm, _⟩
  · rw [h0]; exact Nat.zero_le _
  · exact Nat.le_trans hnc hcm
theorem OS.empty {w : World} {B : Nat} (hB : B ≤ w.heap.size) : OS (w.alloc (.cells #[] 31)) B (.slice (some ⟨w.heap.size, 0, none⟩) 0 0) [] := by
  have := World.ownsRow_made (base := w.heap.size) (e := 31) (size := 1) w #[] 0 (by simp) (Nat.zero_le _) rfl
  exact ⟨[], ownsRow_base (by simpa using this) hB, by simp [Seg]; omega⟩
/-- What lies where. -/
theorem OS.open_ {w : World} {B : Nat} {v : Value} {ls : List (List RecD)} (h : OS w B v ls) :
    ∃ (A : Option Addr) (c g : Nat) (vs : List Value), v = .slice A ls.length c ∧ (0 < ls.length → A = some ⟨g, 0, none⟩) ∧ B ≤ g ∧ (0 < ls.length → g < w.heap.size) ∧ Seg w B w.heap.size vs ls ∧
      (∀ (i : Nat) (u : Value), vs[i]? = some u → w.cell? ⟨g, i, none⟩ = some u ∧ w.frozen? ⟨g, i, none⟩ = false) ∧ (∀ (i : Nat) (u : Value) (r : Nat), vs[i]? = some u → u.ownBlock = some r → r ≠ g) := by
  obtain ⟨vs, h1, h2⟩ := h
  have hlen := h2.len
  rcases h1.2 with ⟨rfl, h0⟩ | ⟨g, cap, cur, rfl, hb, hh, hnc, _⟩
  · refine ⟨none, 0, B, vs, by rw [h0], fun h => by omega, Nat.le_refl _, fun h => by omega, h2, fun i u hi => ?_, fun i u r hi => ?_⟩
    all_goals
      have : vs = [] := List.eq_nil_of_length_eq_zero (by omega)
      subst this
      simp at hi
  · refine ⟨_, cap, g, vs, rfl, fun _ => rfl, hb, fun _ => (Array.getElem?_eq_some_iff.1 hh).1, h2, fun i u hi => ⟨?_, frozen_of_row _ _ _ _ _ hh⟩, fun i u r hi hr e => ?_⟩
    · have := h1.cells (g := g) rfl i _ hi
      rwa [add_zero_block] at this
    · subst e
      obtain ⟨u', e', ho⟩ := h2.at_ (i := i) (by rw [← hlen]; exact (List.getElem?_eq_some_iff.1 hi).1)
      rw [hi] at e'
      cases e'
      rcases ho.2 with ⟨rfl, _⟩ | ⟨g', cap', cur', rfl, _, hh', _⟩
      · simp [Value.ownBlock] at hr
      · obtain rfl : g' = r := by simpa [Value.ownBlock] using hr
        rw [hh] at hh'
        injection hh' with hh'
        injection hh' with _ ht _
        exact absurd ht (by decide)
theorem OS.st {w : World} {B : Nat} {v : Value} {ls : List (List RecD)} (h : OS w B v ls) : St w w.heap.size v ls := by
  have hl := h.len
  obtain ⟨A, c, g, vs, rfl, hA, hB, hg, hS, hC, -⟩ := h.open_
  refine ⟨⟨A, c, rfl, fun hn => ⟨g, 0, hA hn, hg hn, fun i hi => ?_⟩⟩, hl⟩
  obtain ⟨u, hu, ho⟩ := hS.at_ hi
  exact ⟨u, by rw [Nat.zero_add]; exact (hC i u hu).1, ho.rt⟩
theorem Keeps.of_grown {w w' : World} {row : Option Nat} (h : w.grownBy w' row) : Keeps (fun b => row = some b) w w' :=
  ⟨h.os, h.tape, h.output, h.size, fun b hb hn => h.block b hb (fun e => hn e.symm)⟩
theorem OR.keepsV {S : Nat → Prop} {w w' : World} {B : Nat} {v : Value} {l : List RecD} (h : OR w B v l) (k : Keeps S w w') (hS : ∀ r, v.ownBlock = some r → ¬ S r) : OR w' B v l := by
  refine ⟨h.1, ?_⟩
  rcases h.2 with h0 | ⟨g, cap, cur, rfl, hb, hh, hr⟩
  · exact .inl h0
  · exact .inr ⟨g, cap, cur, rfl, hb, (k.block g (Array.getElem?_eq_some_iff.1 hh).1 (hS g rfl)).trans hh, hr⟩
theorem Seg.keeps {S : Nat → Prop} {w w' : World} {T : Nat} (k : Keeps S w w') : ∀ {vs : List Value} {ls : List (List RecD)} {B : Nat}, (∀ (i : Nat) (u : Value) (r : Nat), vs[i]? = some u → u.ownBlock = some r → ¬ S r) → Seg w B T vs ls → Seg w' B T vs ls
  | [], [], _, _, h => h
  | [], _ :: _, _, _, h => h.elim
  | _ :: _, [], _, _, h => h.elim
  | v :: vs, l :: ls, B, hS, ⟨M, h1, h2, h3, h4⟩ => ⟨M, h1, h2.keepsV k (fun r hr => hS 0 v r rfl hr), h3, Seg.keeps k (fun i u r hi hr => hS (i + 1) u r (by simpa using hi) hr) h4⟩
theorem row_apart {w : World} {B B' n r : Nat} {v u : Value} {l : List RecD} {vs : List Value} (h : w.ownsRow B 31 1 v n vs) (hu : OR w B' u l) (hv : v.ownBlock = some r) : ¬ u.ownBlock = some r := fun hr => by
  rcases h.2 with ⟨rfl, _⟩ | ⟨g, cap, cur, rfl, hb, hh, _⟩
  · simp [Value.ownBlock] at hv
  · rcases hu.2 with ⟨rfl, _⟩ | ⟨g', cap', cur', rfl, _, hh', _⟩
    · simp [Value.ownBlock] at hr
    · obtain rfl : g = r := by simpa [Value.ownBlock] using hv
      obtain rfl : g' = g := by simpa [Value.ownBlock] using hr
      rw [hh] at hh'
      injection hh' with hh'
      injection hh' with _ ht _
      exact absurd ht (by decide)
theorem OS.push {w w' : World} {B T : Nat} {v v' u : Value} {l : List RecD} {ls : List (List RecD)} {vs : List Value} (h0 : w.ownsRow B 31 1 v ls.length vs) (hS : Seg w B T vs ls) (hT : T ≤ w.heap.size) (hu : OR w T u l)
    (k : Keeps (fun b => v.ownBlock = some b) w w') (h' : w'.ownsRow B 31 1 v' (ls.length + 1) (vs ++ [u])) : OS w' B v' (ls ++ [l]) := by
  refine ⟨vs ++ [u], by rw [List.length_append]; exact h', ?_⟩
  refine (Seg.keeps k (fun i x r hi hr hv => ?_) (Seg.snoc hu hT (fun r hr => (hu.lt hr).2) hS)).top k.size
  by_cases hlt : i < vs.length
  · rw [List.getElem?_append_left hlt] at hi
    obtain ⟨x', e, ho⟩ := hS.at_ (i := i) (by rw [← hS.len]; exact hlt)
    rw [hi] at e
    cases e
    exact row_apart h0 ho hv hr
  · have : x = u := by
      have hlt2 := (List.getElem?_eq_some_iff.1 hi).1
      simp at hlt2
      obtain rfl : i = vs.length := by omega
      simpa using hi.symm
    subst this
    exact row_apart h0 hu hv hr
theorem St.keeps {S : Nat → Prop} {w w' : World} {B : Nat} {v : Value} {ls : List (List RecD)} (h : St w B v ls) (hk : Keeps S w w') (hB : B ≤ w.heap.size) (hS : ∀ b, b < B → ¬ S b) : St w' B v ls :=
  h.below (hk.below (B := B) hB hS) (Nat.le_refl _)
theorem OS.keeps {S : Nat → Prop} {w w' : World} {B : Nat} {v : Value} {ls : List (List RecD)} (h : OS w B v ls) (hk : Keeps S w w') (hS : ∀ r, B ≤ r → ¬ S r) : OS w' B v ls := by
  obtain ⟨vs, ⟨hl, ho⟩, h2⟩ := h
  refine ⟨vs, ⟨hl, ho.imp id ?_⟩, (Seg.keeps hk (fun i u r hi hr => hS r (h2.lo hi hr)) h2).top hk.size⟩
  rintro ⟨g, cap, cur, hv, hb', hh, rest⟩
  exact ⟨g, cap, cur, hv, hb', (hk.block g (Array.getElem?_eq_some_iff.1 hh).1 (hS g hb')).trans hh, rest⟩
end Go.Proofs.YtcpmkbemkhacnaaDoor
