/-
  Records and bytes as they come in.
-/
import Derived.Test.YtoddmijfdmjfbaaGreatDoorMZ2
import Derived.Deep.RegionHeld3
import Derived.Laws.Tables
import Derived.Test.YtoddmijfdmjfbaaGreatDoorMZ0
import Derived.Shelf.SlicesG.SearchI
import Derived.Shelf.SlicesG.Delete
import Derived.Test.YtoddmijfdmjfbaaGreatDoorMZ1
import Derived.ChangeVars
import Derived.LaidLaws
import Derived.OpenShut
import Derived.RowKitTokens
import Derived.WalkSmall
/- Dm -/
set_option linter.unusedVariables false
namespace Go.Proofs.YtoddmijfdmjfbaaGreatDoor
open Go.RowKit

def noByte : Value → Bool
  | .int .u8 _ => false
  | _ => true
theorem keepsRow_ (W : World) (g : Nat) (cs : Array Value) : Keeps (· = g) W (W.setRow g cs) := ⟨rfl, rfl, rfl, by simp, fun b hb hn => setRow_other W g b cs hn⟩
theorem Cur.row {T T' : TypeId} {k : IntKind} {w : World} {g B : Nat} {cs : Array Value} (h : Cur T k w g) (hb : w.heap[B]? = some (.cells cs T' (0, 0))) (hs : cs.all noByte = true) (hne : ¬ B = g) (cs' : Array Value) : Cur T k (w.setRow B cs') g := by
  have kk := keepsRow_ w B cs'
  have hlt := h.lt
  obtain ⟨A, n, c, i, hh, hg, i0, i1, hm, hB⟩ := h
  refine ⟨A, n, c, i, hh, (kk.block g hlt (by show ¬ g = B; omega)).trans hg, i0, i1, hm, fun hn => ?_⟩
  obtain ⟨b, off, rfl, hbl, hc⟩ := hB hn
  have hbB : ¬ b = B := by
    rintro rfl
    obtain ⟨z, hz, -⟩ := hc 0 hn
    rw [cell_of_row _ _ _ _ _ _ hb] at hz
    have := Array.all_eq_true.1 hs (off + 0) (Array.getElem?_eq_some_iff.1 hz).1
    rw [(Array.getElem?_eq_some_iff.1 hz).2] at this
    simp [noByte] at this
  exact ⟨b, off, rfl, hbl, fun j hj => by
    obtain ⟨z, hz, hr⟩ := hc j hj
    exact ⟨z, (kk.cell (p := ⟨b, off + j, none⟩) (by show b < w.heap.size; omega) hbB).trans hz, hr⟩⟩
/-- A box of the call's own is written whole. -/
theorem belowRow_ {w W : World} (h : Below w.heap.size w W) {B : Nat} (hB : w.heap.size ≤ B) (cs : Array Value) : Below w.heap.size w (W.setRow B cs) :=
  h.trans ((keepsRow_ W B cs).below (B := w.heap.size) h.size (by rintro b hb rfl; omega))
theorem Blk.row {W : World} {g B : Nat} {cs : Array Value} (h : Blk W g cs) (hne : ¬ g = B) (cs' : Array Value) : Blk (W.setRow B cs') g cs := h.keeps (keepsRow_ W B cs') hne
theorem Keeps.grown {S : Nat → Prop} {w w1 w2 : World} (h : Keeps S w w1) {row : Option Nat} (hg : w1.grownBy w2 row) (hr : ∀ r, row = some r → w.heap.size ≤ r) : Keeps S w w2 :=
  ⟨hg.os.trans h.os, hg.tape.trans h.tape, hg.output.trans h.output, Nat.le_trans h.size hg.size, fun b hb hn => (hg.block b (Nat.lt_of_lt_of_le hb h.size) (fun e => by have := hr b e.symm; omega)).trans (h.block b hb hn)⟩
theorem Cur.grown {T : TypeId} {k : IntKind} {w w' : World} {g : Nat} (h : Cur T k w g) {row : Option Nat} (hg : w.grownBy w' row) (hr : ∀ r, row = some r → g < r) : Cur T k w' g :=
  h.keeps (S := fun b => row = some b) ⟨hg.os, hg.tape, hg.output, hg.size, fun b hb hn => hg.block b hb (fun e => hn e.symm)⟩ (fun b hb e => by have := hr b e; omega)
theorem OR.keep {S : Nat → Prop} {w w' : World} {B : Nat} {v : Value} {l : List RecD} (h : OR w B v l) (hk : Keeps S w w') (hS : ∀ r, B ≤ r → ¬ S r) : OR w' B v l := by
  obtain ⟨hl, ho⟩ := h
  refine ⟨hl, ho.imp id ?_⟩
  rintro ⟨g, cap, cur, hv, hb', hh, rest⟩
  exact ⟨g, cap, cur, hv, hb', (hk.block g (Array.getElem?_eq_some_iff.1 hh).1 (hS g hb')).trans hh, rest⟩
end Go.Proofs.YtoddmijfdmjfbaaGreatDoor
/- Xb -/
set_option linter.unusedVariables false
namespace Go.Proofs.YtoddmijfdmjfbaaGreatDoor
open Go.RowKit Go.Shelf

/-- How the library's numbers go by this program's. -/
def renLk : Ren := ⟨fun k => if k = 49 then 82 else if k = 45 then 84 else if k = 59 then 90 else if k = 60 then 91 else 99,
  fun k => if k = 0 then 0 else if k = 3 then 3 else if k = 4 then 4 else if k = 22 then 25 else if k = 23 then 2 else 105, fun k => k⟩
set_option maxRecDepth 100000 in
theorem lays_search : SlLaysN.n49 Tryz.prog renLk where
  mixed := by kernel_rfl
  f49 := ⟨ "slices.BinarySearch[[]int64,int64]", by decide, by kernel_rfl⟩
  f59 := ⟨ "cmp.Less[int64]", by decide, by kernel_rfl⟩
  f60 := ⟨ "slices.isNaN[int64]", by decide, by kernel_rfl⟩
  f68 := ⟨ "cmp.isNaN[int64]", by decide, by kernel_rfl⟩
  t0 := by kernel_rfl
  a0 := fun _ => by kernel_rfl
  z0 := fun _ => by kernel_rfl
  v0 := fun _ => by kernel_rfl
  t3 := by kernel_rfl
  a3 := fun _ => by kernel_rfl
  z3 := fun _ => by kernel_rfl
  v3 := fun _ => by kernel_rfl
  t4 := by kernel_rfl
  a4 := fun _ => by kernel_rfl
  z4 := fun _ => by kernel_rfl
  v4 := fun _ => by kernel_rfl
  t22 := by kernel_rfl
  a22 := fun _ => by kernel_rfl
  z22 := fun _ => by kernel_rfl
  v22 := fun _ => by kernel_rfl
  t23 := by kernel_rfl
  a23 := fun _ => by kernel_rfl
  z23 := fun _ => by kernel_rfl
  v23 := fun _ => by kernel_rfl
  t51 := by kernel_rfl
  a51 := fun _ => by kernel_rfl
  z51 := fun _ => by kernel_rfl
  v51 := fun _ => by kernel_rfl
set_option maxRecDepth 100000 in
theorem lays_delete : SlLaysN.n45 Tryz.prog renLk where
  mixed := by kernel_rfl
  f45 := ⟨ "slices.Delete[[]int64,int64]", by decide, by kernel_rfl⟩
  t0 := by kernel_rfl
  a0 := fun _ => by kernel_rfl
  z0 := fun _ => by kernel_rfl
  v0 := fun _ => by kernel_rfl
  t3 := by kernel_rfl
  a3 := fun _ => by kernel_rfl
  z3 := fun _ => by kernel_rfl
  v3 := fun _ => by kernel_rfl
  t4 := by kernel_rfl
  a4 := fun _ => by kernel_rfl
  z4 := fun _ => by kernel_rfl
  v4 := fun _ => by kernel_rfl
  t22 := by kernel_rfl
  a22 := fun _ => by kernel_rfl
  z22 := fun _ => by kernel_rfl
  v22 := fun _ => by kernel_rfl
  t23 := by kernel_rfl
  a23 := fun _ => by kernel_rfl
  z23 := fun _ => by kernel_rfl
  v23 := fun _ => by kernel_rfl
  i23 := by kernel_rfl
end Go.Proofs.YtoddmijfdmjfbaaGreatDoor
/- Ca -/
set_option linter.unusedVariables false
namespace Go.Proofs.YtoddmijfdmjfbaaGreatDoor
open Go.ChangeShapes Go.WideShapes Go.ChangeAt Go.RowKit Go.Deep

abbrev namesLaid {H : Type} : DataW H := Rows.laid_loop_example_g00767_impl_kindNames
theorem names_global : Tryz.prog.globalNamed "loop.example/g00767/impl.kindNames" = some 0 := by kernel_rfl
theorem names_type : (Tryz.prog.globals[0]?).map (·.type) = some 110 := by kernel_rfl

set_option maxRecDepth 100000 in
theorem names_of_laid {W : World} (h : laidMetH Tryz.prog [("loop.example/g00767/impl.kindNames", namesLaid)] W) : Names W := by
  have h' : laidMet Tryz.prog [("loop.example/g00767/impl.kindNames", namesLaid)] W := h
  obtain ⟨ps, ⟨g, t, cs, fuel, p, q, h1, h2, h3, h4, _, _⟩, _, _⟩ := h'
  obtain rfl := Option.some.inj (names_global.symm.trans h1)
  obtain rfl := Option.some.inj (names_type.symm.trans h2)
  obtain ⟨xs, m, rfl, hx, hcl, hxl, hat⟩ := DataW.trod_array Tryz.underlying110 h4
  have hce : Tryz.prog.cellsOf 9 = 1 := by kernel_rfl
  have hc13 : Tryz.prog.cellsOf 110 = 13 := by kernel_rfl
  rw [hc13] at hcl
  have hcell := fun i => World.var?_cell names_global h3 i
  have hsz : cs.size = 13 := by simpa using hcl
  have hlt : 0 < W.heap.size := by
    have h0 := hcell 0
    rcases Nat.eq_zero_or_pos W.heap.size with hz | hz
    · rw [Array.getElem?_eq_getElem (by omega)] at h0
      simp [World.cell?, hz] at h0
    · exact hz
  refine ⟨hlt, fun i hi => ?_⟩
  rw [hcell i]
  have hi' := hat i hi
  rw [hce, Nat.mul_one] at hi'
  have hone : (cs.toList.drop i).take 1 = [cs[i]'(by omega)] := by
    rw [List.drop_eq_getElem_cons (by simp; omega)]
    simp
  rw [hone] at hi'
  rw [Array.getElem?_eq_getElem (by omega)]
  cases hxi : xs[i]? with
  | none => rw [List.getElem?_eq_none_iff] at hxi; omega
  | some x =>
    rw [hxi] at hi'
    obtain ⟨s, hs, rfl, _⟩ := DataW.trod_string Tryz.underlying9 hi'
    injection hs with hs _
    have hd : (xs.map (·.1))[i]? = some (.lit (.string s.data.toList)) := by simp [hxi]
    have hx1 := congrArg Prod.fst hx
    have hx1 : (namesLaid : DataW Unit) = .agg (xs.map (·.1)) := hx1
    have hx2 : xs.map (·.1) = _ := (DataW.agg.inj hx1).symm
    rw [hx2] at hd
    rw [hs]
    congr 2
    rcases (by omega : i = 0 ∨ i = 1 ∨ i = 2 ∨ i = 3 ∨ i = 4 ∨ i = 5 ∨ i = 6 ∨ i = 7 ∨ i = 8 ∨ i = 9 ∨ i = 10 ∨ i = 11 ∨ i = 12) with rfl | rfl | rfl | rfl | rfl | rfl | rfl | rfl | rfl | rfl | rfl | rfl | rfl
    all_goals
      apply ByteArray.ext
      apply Array.toList_inj.1
      exact (Lit.string.inj (DataW.lit.inj (Option.some.inj hd))).symm

/-- A world in which the variable lies as it is listed. -/
noncomputable def laidWorld (os : Os) : World :=
  let w0 := World.holding Tryz.prog os ⟨#[], #[], []⟩
  { w0 with heap := w0.heap.modify 0 fun
      | .cells _ t frozen => .cells #[.string (nameOf 0), .string (nameOf 1), .string (nameOf 2), .string (nameOf 3), .string (nameOf 4), .string (nameOf 5), .string (nameOf 6), .string (nameOf 7), .string (nameOf 8), .string (nameOf 9), .string (nameOf 10), .string (nameOf 11), .string (nameOf 12)] t frozen
      | o => o }
theorem laidWorld_met (os : Os) (args : Array Value) : laidMetH Tryz.prog [("loop.example/g00767/impl.kindNames", namesLaid)] ((laidWorld os).forCall (fun _ _ => 0) ⟨#[], args, []⟩).memory :=
  laidMet_of_run' 8 (by kernel_rfl) (by kernel_rfl)
end Go.Proofs.YtoddmijfdmjfbaaGreatDoor
/- Cb -/
set_option linter.unusedVariables false
namespace Go.Proofs.YtoddmijfdmjfbaaGreatDoor
open Go.ChangeShapes Go.WideShapes Go.ChangeAt Go.RowKit Go.Deep

set_option maxRecDepth 100000 in
theorem open_bt {H : Type} {enc : TypeId × Value → H} {W : World} {spare : Nat → Bool} {held : Bool} {r : Reach} {b0 : Nat} {v : Value} {d : DataW H} {p : List MemPlace}
    (hv : Value.okWide Tryz.prog W r b0 22 v) (h : DataW.Trod enc Tryz.prog W 0 spare held 22 v d p) : ∃ L, Bt W W.heap.size v L := by
  obtain ⟨a0, l0, c0, rfl⟩ := okWide_slice Tryz.underlying22 hv
  obtain ⟨fuel, hf⟩ := h
  have hf : DataW.trod enc Tryz.prog W 0 spare held fuel 22 [.slice a0 l0 c0] = some (d, p) := hf
  rcases open_ints Tryz.underlying22 Tryz.underlying5 (by kernel_rfl) hf with ⟨h1, _⟩ | ⟨a, len, cap, zs, hcs, hb, hl, hm, hz, hx, hcell, hwf⟩
  · injection h1 with h1 _
    rw [h1]
    exact ⟨[], Bt.nil _ _ _ _⟩
  · injection hcs with hv _
    have hlm : len ≤ zs.length := by rw [hz]; split <;> omega
    have hlen : ((zs.take len).map Int.toNat).length = len := by rw [List.length_map, List.length_take]; omega
    have hrange : ∀ z ∈ zs, 0 ≤ z ∧ z ≤ 255 := fun z hz => by
      have := hwf z hz
      simp [Lit.wf, IntKind.min, IntKind.max, IntKind.signed, IntKind.bits] at this
      omega
    refine ⟨(zs.take len).map Int.toNat, ⟨⟨some a, cap, by rw [hlen]; exact hv, by rw [hlen]; exact hl, fun hn => ?_⟩, by rw [hlen]; exact Nat.le_trans hl hm, fun x hx => ?_⟩⟩
    · rw [hlen] at hn ⊢
      have h0 := hcell 0 (by omega)
      have hsp : a.spot = none := by simpa [Addr.add] using World.cell?_spot h0
      obtain ⟨b, off, sp⟩ := a
      subst hsp
      refine ⟨b, off, rfl, block_lt_of_cell h0, fun j hj => ?_⟩
      have hc := hcell j (by omega)
      rw [add_plain] at hc
      rw [hc]
      have hj' : j < zs.length := by omega
      have hr := hrange zs[j] (List.getElem_mem hj')
      have e1 : zs.getD j 0 = zs[j] := by simp [List.getD, hj']
      have e2 : ((zs.take len).map Int.toNat).getD j 0 = zs[j].toNat := by simp [List.getD, hj, hj']
      rw [e1, e2]
      congr 2
      omega
    · obtain ⟨z, hz, rfl⟩ := List.mem_map.1 hx
      have := hrange z (List.mem_of_mem_take hz)
      omega
end Go.Proofs.YtoddmijfdmjfbaaGreatDoor
