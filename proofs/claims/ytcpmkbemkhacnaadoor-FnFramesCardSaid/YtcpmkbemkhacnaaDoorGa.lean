/-
  What the laws of frames carry: a row of lists, a list of one record, strings joined.
-/
import Derived.Test.YtcpmkbemkhacnaaDoorBi
import Derived.Test.YtcpmkbemkhacnaaDoorEb
import Derived.Test.YtcpmkbemkhacnaaDoorEl
import Derived.Test.YtcpmkbemkhacnaaDoorDk
import Derived.Test.YtcpmkbemkhacnaaDoorDd
set_option linter.unusedVariables false
namespace Go.Proofs.YtcpmkbemkhacnaaDoor
open Go.RowKit

theorem Seg.le_ {w : World} {T : Nat} : ∀ {vs : List Value} {ls : List (List RecD)} {B : Nat}, Seg w B T vs ls → B ≤ T
  | [], [], _, h => h
  | [], _ :: _, _, h => h.elim
  | _ :: _, [], _, h => h.elim
  | v :: vs, l :: ls, B, ⟨M, h1, h2, h3, h4⟩ => Nat.le_trans h1 h4.le_
theorem Seg.hi {w : World} {T : Nat} : ∀ {vs : List Value} {ls : List (List RecD)} {B i : Nat} {v : Value} {r : Nat}, Seg w B T vs ls → vs[i]? = some v → v.ownBlock = some r → r < T
  | [], [], _, _, _, _, _, hi, _ => by simp at hi
  | [], _ :: _, _, _, _, _, h, _, _ => h.elim
  | _ :: _, [], _, _, _, _, h, _, _ => h.elim
  | v :: vs, l :: ls, B, 0, v', r, ⟨M, h1, h2, h3, h4⟩, hi, hr => by
    obtain rfl : v = v' := by simpa using hi
    exact Nat.lt_of_lt_of_le (h3 r hr) h4.le_
  | v :: vs, l :: ls, B, i + 1, v', r, ⟨M, h1, h2, h3, h4⟩, hi, hr => Seg.hi h4 (i := i) (by simpa using hi) hr
/-- The slice v is a row of the lists ls, from block B on; all of it lies below T, each list in memory of its own. -/
structure AllAt (w : World) (B T : Nat) (v : Value) (ls : List (List RecD)) (vs : List Value) : Prop where
  row : w.ownsRow B 31 1 v ls.length vs
  seg : Seg w B T vs ls
  top : T ≤ w.heap.size
  low : ∀ r, v.ownBlock = some r → r < T
theorem AllAt.below {w w' : World} {B T : Nat} {v : Value} {ls : List (List RecD)} {vs : List Value} (h : AllAt w B T v ls vs) (hb : Below w.heap.size w w') : AllAt w' B T v ls vs :=
  ⟨ownsRow_below h.row hb, h.seg.below hb, Nat.le_trans h.top hb.size, h.low⟩
theorem row_keeps {S : Nat → Prop} {w w' : World} {B n k : Nat} {e : TypeId} {v : Value} {vs : List Value} (h : w.ownsRow B e k v n vs) (hk : Keeps S w w') (hS : ∀ r, v.ownBlock = some r → ¬ S r) : w'.ownsRow B e k v n vs := by
  obtain ⟨hl, ho⟩ := h
  refine ⟨hl, ho.imp id ?_⟩
  rintro ⟨g, cap, cur, rfl, hb', hh, rest⟩
  exact ⟨g, cap, cur, rfl, hb', (hk.block g (Array.getElem?_eq_some_iff.1 hh).1 (hS g rfl)).trans hh, rest⟩
theorem AllAt.keeps {S : Nat → Prop} {w w' : World} {B T : Nat} {v : Value} {ls : List (List RecD)} {vs : List Value} (h : AllAt w B T v ls vs) (hk : Keeps S w w') (hS : ∀ r, B ≤ r → r < T → ¬ S r) : AllAt w' B T v ls vs :=
  ⟨row_keeps h.row hk (fun r hr => hS r (World.ownsRow.lt h.row r hr).1 (h.low r hr)), Seg.keeps hk (fun i u r hi hr => hS r (h.seg.lo hi hr) (h.seg.hi hi hr)) h.seg, Nat.le_trans h.top hk.size, h.low⟩
theorem AllAt.os {w : World} {B T : Nat} {v : Value} {ls : List (List RecD)} {vs : List Value} (h : AllAt w B T v ls vs) : OS w B v ls := ⟨vs, h.row, h.seg.top h.top⟩
theorem OS.allAt {w : World} {B : Nat} {v : Value} {ls : List (List RecD)} (h : OS w B v ls) : ∃ vs, AllAt w B w.heap.size v ls vs := by
  obtain ⟨vs, h1, h2⟩ := h
  exact ⟨vs, h1, h2, Nat.le_refl _, fun r hr => (World.ownsRow.lt h1 r hr).2⟩
theorem OB.keepV {S : Nat → Prop} {w w' : World} {B : Nat} {v : Value} {L : List Nat} (h : OB w B v L) (hk : Keeps S w w') (hS : ∀ r, v.ownBlock = some r → ¬ S r) : OB w' B v L := ⟨row_keeps h.own hk hS, h.small⟩
theorem OS.shape {w : World} {B : Nat} {v : Value} {ls : List (List RecD)} (h : OS w B v ls) : ∃ A c, v = .slice A ls.length c := by
  obtain ⟨A, c, g, vs, hv, -⟩ := h.open_
  exact ⟨A, c, hv⟩
theorem OR.one {w : World} {B : Nat} (hB : B ≤ w.heap.size) (r : RecD) : OR (w.alloc (.cells #[.int .i64 r.k, .int .i64 r.a, .int .i64 r.b] 30)) B (.slice (some ⟨w.heap.size, 0, none⟩) 1 1) [r] := by
  refine ⟨rfl, .inr ⟨w.heap.size, 1, _, rfl, hB, heap_alloc_new w _, Nat.le_refl _, by unfold maxLen; decide, rfl, ?_⟩⟩
  rfl
theorem OR.keepIt {S : Nat → Prop} {w w' : World} {B : Nat} {v : Value} {l : List RecD} (h : OR w B v l) (hk : Keeps S w w') (hS : ∀ r, B ≤ r → ¬ S r) : OR w' B v l := by
  obtain ⟨hl, ho⟩ := h
  refine ⟨hl, ho.imp id ?_⟩
  rintro ⟨g, cap, cur, hv, hb', hh, rest⟩
  exact ⟨g, cap, cur, hv, hb', (hk.block g (Array.getElem?_eq_some_iff.1 hh).1 (hS g hb')).trans hh, rest⟩
theorem strOf_append (L M : List Nat) : strOf (L ++ M) = strOf L ++ strOf M := by
  unfold strOf strOfNums
  apply ByteArray.ext
  simp [ByteArray.data_append]
theorem strOf_size (L : List Nat) : (strOf L).size = L.length := by
  unfold strOf
  rw [strOfNums_size, List.length_map]
end Go.Proofs.YtcpmkbemkhacnaaDoor
