/-
  The model's copy of an agent.
-/
import Derived.Test.YtkefbmbjkijilaaGreatDoorMZ11
import Derived.Deep.DeepCutAuto
import Derived.Test.YtkefbmbjkijilaaGreatDoorMZ7
import Derived.Test.YtkefbmbjkijilaaGreatDoorMZ10
import Derived.Test.YtkefbmbjkijilaaGreatDoorMZ8
import Derived.Deep.RegionHeld3
import Derived.Laws.Tables
import Derived.Laws.CopyOwn
/- Wk -/
set_option linter.unusedVariables false
namespace Go.Proofs.YtkefbmbjkijilaaGreatDoor
open Go.RowKit

end Go.Proofs.YtkefbmbjkijilaaGreatDoor
/- Zd -/
set_option linter.unusedVariables false
namespace Go.Proofs.YtkefbmbjkijilaaGreatDoor
open Go.RowKit

/-- The cells of an agent. -/
abbrev agC (p0 p1 p2 p3 : Value) (l p t ph : Int) (co : Bool) (ck bo ba lb : Int) (s0 s1 s2 s3 : Value) (gd pr : Int) (b : Value) : Array Value :=
  #[p0, p1, p2, p3, .int .i64 l, .int .i64 p, .int .i64 t, .int .i64 ph, .bool co, .int .i64 ck, .int .i64 bo, .int .i64 ba, .int .i64 lb, s0, s1, s2, s3, .int .i64 gd, .int .i64 pr, b]
/-- An agent that can be read below block B. -/
structure IsAg (w : World) (B : Nat) (v : Value) (d : PlanD) (s : StD) (st : List Nat) : Prop where
  it : ∃ p0 p1 p2 p3 s0 s1 s2 s3 b, v = .agg (agC p0 p1 p2 p3 d.l d.p d.t s.ph s.co s.ck s.bo s.ba s.lb s0 s1 s2 s3 s.gd s.pr b) ∧ IsPlR w B (.agg #[p0, p1, p2, p3, .int .i64 d.l, .int .i64 d.p, .int .i64 d.t]) d ∧ IsStR w B (.agg #[.int .i64 s.ph, .bool s.co, .int .i64 s.ck, .int .i64 s.bo, .int .i64 s.ba, .int .i64 s.lb, s0, s1, s2, s3, .int .i64 s.gd, .int .i64 s.pr]) s ∧ Bt w B b st ∧ Real b
theorem IsAg.below {w w' : World} {B B' : Nat} {v : Value} {d : PlanD} {s : StD} {st : List Nat} (h : IsAg w B v d s st) (hb : Below B' w w') (hB : B ≤ B') : IsAg w' B v d s st := by
  obtain ⟨p0, p1, p2, p3, s0, s1, s2, s3, b, hv, h0, h1, h2, h3⟩ := h.it
  exact ⟨p0, p1, p2, p3, s0, s1, s2, s3, b, hv, h0.below hb hB, h1.below hb hB, h2.below hb hB, h3⟩
theorem IsAg.more {w : World} {B B' : Nat} {v : Value} {d : PlanD} {s : StD} {st : List Nat} (h : IsAg w B v d s st) (hB : B ≤ B') : IsAg w B' v d s st := by
  obtain ⟨p0, p1, p2, p3, s0, s1, s2, s3, b, hv, h0, h1, h2, h3⟩ := h.it
  exact ⟨p0, p1, p2, p3, s0, s1, s2, s3, b, hv, h0.more hB, h1.more hB, h2.more hB, h3⟩
theorem IsAg.go {w w' : World} {v : Value} {d : PlanD} {s : StD} {st : List Nat} (h : IsAg w w.heap.size v d s st) (hb : Below w.heap.size w w') : IsAg w' w'.heap.size v d s st := (h.below hb (Nat.le_refl _)).more hb.size
/-- Two rows of one type lie in blocks of their own. -/
def Apart (u v : Value) : Prop := ∀ r, u.ownBlock = some r → v.ownBlock = some r → False
/-- An agent of the call's own. -/
structure OwnAg (w : World) (B : Nat) (v : Value) (d : PlanD) (s : StD) (st : List Nat) : Prop where
  it : ∃ p0 p1 p2 p3 s0 s1 s2 s3 b, v = .agg (agC p0 p1 p2 p3 d.l d.p d.t s.ph s.co s.ck s.bo s.ba s.lb s0 s1 s2 s3 s.gd s.pr b) ∧ Lists w B p0 p1 p2 p3 d ∧ OwnSt w B (.agg #[.int .i64 s.ph, .bool s.co, .int .i64 s.ck, .int .i64 s.bo, .int .i64 s.ba, .int .i64 s.lb, s0, s1, s2, s3, .int .i64 s.gd, .int .i64 s.pr]) s ∧ OB w B b st ∧ Apart p1 s3
theorem OwnAg.below {w w' : World} {B : Nat} {v : Value} {d : PlanD} {s : StD} {st : List Nat} (h : OwnAg w B v d s st) (hb : Below w.heap.size w w') : OwnAg w' B v d s st := by
  obtain ⟨p0, p1, p2, p3, s0, s1, s2, s3, b, hv, h0, h1, h2, h4⟩ := h.it
  exact ⟨p0, p1, p2, p3, s0, s1, s2, s3, b, hv, h0.below hb, h1.below hb, h2.below hb, h4⟩
theorem OwnAg.base {w : World} {B B' : Nat} {v : Value} {d : PlanD} {s : StD} {st : List Nat} (h : OwnAg w B v d s st) (hB : B' ≤ B) : OwnAg w B' v d s st := by
  obtain ⟨p0, p1, p2, p3, s0, s1, s2, s3, b, hv, h0, h1, h2, h4⟩ := h.it
  exact ⟨p0, p1, p2, p3, s0, s1, s2, s3, b, hv, h0.base hB, h1.base hB, h2.base hB, h4⟩
theorem OwnAg.is {w : World} {B : Nat} {v : Value} {d : PlanD} {s : StD} {st : List Nat} (h : OwnAg w B v d s st) (hd : PlFits d) (hs : StFits s 1048576) : IsAg w w.heap.size v d s st := by
  obtain ⟨p0, p1, p2, p3, s0, s1, s2, s3, b, hv, h0, h1, h2, h4⟩ := h.it
  exact ⟨p0, p1, p2, p3, s0, s1, s2, s3, b, hv, h0.plR hd, h1.isR hs, h2.bt, h2.real⟩
theorem row_grown {w w' : World} {B e k n B' e' k' n' : Nat} {v v' : Value} {xs xs' : List Value} (h : w.ownsRow B e k v n xs) (h' : w.ownsRow B' e' k' v' n' xs') (hne : e' ≠ e) (hg : w.grownBy w' v'.ownBlock) : w'.ownsRow B e k v n xs :=
  ownsRow_keeps (S := fun b => v'.ownBlock = some b) h ⟨hg.os, hg.tape, hg.output, hg.size, fun b hb hn => hg.block b hb fun e => hn e.symm⟩ fun r hr hs => hne (row_type h' h hs hr)
theorem Lists.grown {w w' : World} {B B' : Nat} {v0 v1 v2 v3 u : Value} {d : PlanD} {M : List Nat} (h : Lists w B v0 v1 v2 v3 d) (h' : OB w B' u M) (hg : w.grownBy w' u.ownBlock) : Lists w' B v0 v1 v2 v3 d := by
  obtain ⟨⟨a, ha, ha'⟩, ⟨b, hb1, hb2⟩, ⟨c, hc, hc'⟩, ⟨e, he, he'⟩⟩ := h
  exact ⟨⟨a, row_grown ha h'.own (by decide) hg, ha'⟩, ⟨b, row_grown hb1 h'.own (by decide) hg, hb2⟩, ⟨c, row_grown hc h'.own (by decide) hg, hc'⟩, ⟨e, row_grown he h'.own (by decide) hg, he'⟩⟩
theorem OwnSt.grown {w w' : World} {B B' : Nat} {v u : Value} {s : StD} {M : List Nat} (h : OwnSt w B v s) (h' : OB w B' u M) (hg : w.grownBy w' u.ownBlock) : OwnSt w' B v s := by
  obtain ⟨v0, v1, v2, v3, hv, h0, h1, h2, h3⟩ := h.it
  exact ⟨v0, v1, v2, v3, hv, row_grown h0 h'.own (by decide) hg, row_grown h1 h'.own (by decide) hg, row_grown h2 h'.own (by decide) hg, row_grown h3 h'.own (by decide) hg⟩
theorem OI.lt {w : World} {B e k n : Nat} {v : Value} {x : Nat → Int} (h : OI w B e k v n x) {r : Nat} (hr : v.ownBlock = some r) : r < w.heap.size := by
  obtain ⟨cs, hb⟩ := h.block hr
  exact (Array.getElem?_eq_some_iff.1 hb).1
theorem apart_of {w W : World} {B e k n e' k' n' : Nat} {u v : Value} {x : Nat → Int} {xs : List Value} (h : OI w B e k u n x) (h' : W.ownsRow w.heap.size e' k' v n' xs) : Apart u v := fun r h1 h2 => by
  have := h.lt h1
  have := (h'.lt r h2).1
  omega
/-- A world reached from the one at hand. -/
def From {w wc : World} (_ : Below w.heap.size w wc) (W : World) : Prop := Below wc.heap.size wc W
abbrev endOf {w wc : World} (_ : Below w.heap.size w wc) : World := wc
theorem From.same {w wc : World} (K : Below w.heap.size w wc) : From K wc := Below.refl _ _
theorem From.drew {w wc : World} (K : Below w.heap.size w wc) : From K wc.drew := (Below.refl _ _).drew
theorem From.alloc {w wc : World} (K : Below w.heap.size w wc) (ob : Obj) : From K (wc.alloc ob) := (Below.refl _ _).alloc (Nat.le_refl _) ob
theorem From.allocDrew {w wc : World} (K : Below w.heap.size w wc) (ob : Obj) : From K (wc.alloc ob).drew := ((Below.refl _ _).alloc (Nat.le_refl _) ob).drew
theorem From.it {w wc W : World} {K : Below w.heap.size w wc} (h : From K W) : Below wc.heap.size wc W := h
theorem From.all {w wc W : World} {K : Below w.heap.size w wc} (h : From K W) : Below w.heap.size w W := K.trans ((From.it h).mono K.size)
theorem calls_from {P : Program} {f : FuncId} {args : Array Value} {Q : Ending → World → Prop} {W : World} (R : World → Prop) (h : R W) (k : ∀ W', R W' → Calls P f args W' Q) : Calls P f args W Q := k W h
theorem step_from {P : Program} {ops : Array Oper} {o : Oper} {a : Act} {K : Act → World → Prop} {Q : Exit → Act → World → Prop} {W : World} (R : World → Prop) (h : R W)
    (k : ∀ W', R W' → if Region.wanted o (yielded ops a.tmps) = true then Oper.wp P o a W' K Q else K (a.put o.dst undef) W') : if Region.wanted o (yielded ops a.tmps) = true then Oper.wp P o a W K Q else K (a.put o.dst undef) W := k W h
theorem cell_far {W : World} {p : Addr} {v : Value} {g o : Nat} (h : p.block ≠ g) : (W.setCell p v).cell? ⟨g, o, none⟩ = W.cell? ⟨g, o, none⟩ := World.cell?_setCell_other _ _ _ _ (fun e => h (by rw [e]))
section
variable (W : World) (g : Nat) (x0 x1 x2 x3 x4 x5 x6 x7 x8 x9 x10 x11 x12 x13 x14 x15 x16 x17 x18 x19 : Value)
/-- The world with twenty cells of block g set. -/
abbrev put20 : World := (((((((((((((((((((W.setCell ⟨g, 0, none⟩ x0).setCell ⟨g, 1, none⟩ x1).setCell ⟨g, 2, none⟩ x2).setCell ⟨g, 3, none⟩ x3).setCell ⟨g, 4, none⟩ x4).setCell ⟨g, 5, none⟩ x5).setCell ⟨g, 6, none⟩ x6).setCell ⟨g, 7, none⟩ x7).setCell ⟨g, 8, none⟩ x8).setCell ⟨g, 9, none⟩ x9).setCell ⟨g, 10, none⟩ x10).setCell ⟨g, 11, none⟩ x11).setCell ⟨g, 12, none⟩ x12).setCell ⟨g, 13, none⟩ x13).setCell ⟨g, 14, none⟩ x14).setCell ⟨g, 15, none⟩ x15).setCell ⟨g, 16, none⟩ x16).setCell ⟨g, 17, none⟩ x17).setCell ⟨g, 18, none⟩ x18).setCell ⟨g, 19, none⟩ x19
theorem keeps_put20 : Keeps (· = g) W (put20 W g x0 x1 x2 x3 x4 x5 x6 x7 x8 x9 x10 x11 x12 x13 x14 x15 x16 x17 x18 x19) := by
  unfold put20
  iterate 20 (refine Keeps.set (S := (· = g)) ?_ rfl _)
  exact Keeps.refl _ _
end
theorem far20 {W : World} {g h o : Nat} {x0 x1 x2 x3 x4 x5 x6 x7 x8 x9 x10 x11 x12 x13 x14 x15 x16 x17 x18 x19 : Value} (hne : g ≠ h) : (put20 W g x0 x1 x2 x3 x4 x5 x6 x7 x8 x9 x10 x11 x12 x13 x14 x15 x16 x17 x18 x19).cell? ⟨h, o, none⟩ = W.cell? ⟨h, o, none⟩ := by
  unfold put20
  iterate 20 (refine (cell_far hne).trans ?_)
  rfl
theorem Below.put20 {w W : World} {B g : Nat} {x0 x1 x2 x3 x4 x5 x6 x7 x8 x9 x10 x11 x12 x13 x14 x15 x16 x17 x18 x19 : Value} (h : Below B w W) (hg : B ≤ g) : Below B w (put20 W g x0 x1 x2 x3 x4 x5 x6 x7 x8 x9 x10 x11 x12 x13 x14 x15 x16 x17 x18 x19) := by
  unfold Go.Proofs.YtkefbmbjkijilaaGreatDoor.put20
  iterate 20 (refine Below.setCell ?_ hg _)
  exact h
set_option maxHeartbeats 2000000 in
theorem set20 {cs : Array Value} {x0 x1 x2 x3 x4 x5 x6 x7 x8 x9 x10 x11 x12 x13 x14 x15 x16 x17 x18 x19 : Value} (hs : cs.size = 20) : (((((((((((((((((((cs.setIfInBounds 0 x0).setIfInBounds 1 x1).setIfInBounds 2 x2).setIfInBounds 3 x3).setIfInBounds 4 x4).setIfInBounds 5 x5).setIfInBounds 6 x6).setIfInBounds 7 x7).setIfInBounds 8 x8).setIfInBounds 9 x9).setIfInBounds 10 x10).setIfInBounds 11 x11).setIfInBounds 12 x12).setIfInBounds 13 x13).setIfInBounds 14 x14).setIfInBounds 15 x15).setIfInBounds 16 x16).setIfInBounds 17 x17).setIfInBounds 18 x18).setIfInBounds 19 x19 = #[x0, x1, x2, x3, x4, x5, x6, x7, x8, x9, x10, x11, x12, x13, x14, x15, x16, x17, x18, x19] := by
  obtain ⟨l, rfl⟩ : ∃ l, cs = List.toArray l := ⟨cs.toList, by simp⟩
  have hl : l.length = 20 := by simpa using hs
  clear hs
  simp only [List.setIfInBounds_toArray]
  match l, hl with
  | [_, _, _, _, _, _, _, _, _, _, _, _, _, _, _, _, _, _, _, _], _ => simp only [List.set_cons_zero, List.set_cons_succ]
theorem Own.put20 {w W : World} {g : Nat} {cs : Array Value} {x0 x1 x2 x3 x4 x5 x6 x7 x8 x9 x10 x11 x12 x13 x14 x15 x16 x17 x18 x19 : Value} (h : Own w W g cs) (hg : w.heap.size ≤ g) (hs : cs.size = 20) : Own w (put20 W g x0 x1 x2 x3 x4 x5 x6 x7 x8 x9 x10 x11 x12 x13 x14 x15 x16 x17 x18 x19) g #[x0, x1, x2, x3, x4, x5, x6, x7, x8, x9, x10, x11, x12, x13, x14, x15, x16, x17, x18, x19] := by
  obtain ⟨c, hc⟩ : ∃ c, cs = c := ⟨_, rfl⟩
  have H := h
  replace H := H.set hg (i := 0) (by simp [hs]) x0
  replace H := H.set hg (i := 1) (by simp [hs]) x1
  replace H := H.set hg (i := 2) (by simp [hs]) x2
  replace H := H.set hg (i := 3) (by simp [hs]) x3
  replace H := H.set hg (i := 4) (by simp [hs]) x4
  replace H := H.set hg (i := 5) (by simp [hs]) x5
  replace H := H.set hg (i := 6) (by simp [hs]) x6
  replace H := H.set hg (i := 7) (by simp [hs]) x7
  replace H := H.set hg (i := 8) (by simp [hs]) x8
  replace H := H.set hg (i := 9) (by simp [hs]) x9
  replace H := H.set hg (i := 10) (by simp [hs]) x10
  replace H := H.set hg (i := 11) (by simp [hs]) x11
  replace H := H.set hg (i := 12) (by simp [hs]) x12
  replace H := H.set hg (i := 13) (by simp [hs]) x13
  replace H := H.set hg (i := 14) (by simp [hs]) x14
  replace H := H.set hg (i := 15) (by simp [hs]) x15
  replace H := H.set hg (i := 16) (by simp [hs]) x16
  replace H := H.set hg (i := 17) (by simp [hs]) x17
  replace H := H.set hg (i := 18) (by simp [hs]) x18
  replace H := H.set hg (i := 19) (by simp [hs]) x19
  refine ⟨H.K, H.z, fun o => ?_, H.F⟩
  rw [H.C o, set20 hs]
/-- At a step of a region that draws: bytes that lie somewhere appended to bytes of the call's own. -/
theorem step_append_bt {w : World} {ops : Array Oper} {o : Oper} {a : Act} {K : Act → World → Prop} {Q : Exit → Act → World → Prop} {E : Prop} (hgd : o.guard = none) (s x : Operand)
    (ho : o.op = .call { callee := .builtin .append, args := #[s, x], argTypes := #[33, 33] }) (base : Nat) (v : Value) (M : List Nat) (hs : a.eval s = v) (hown : OB w base v M)
    (u : Value) (L : List Nat) (hx : a.eval x = u) {B : Nat} (hb : Bt w B u L) (hr : Real u) (hlen : M.length + L.length ≤ 8388608) (hbase : base ≤ w.heap.size)
    (h : ∀ v' w', OB w' base v' (M ++ L) → w.grownBy w' v.ownBlock → K (a.put o.dst v') w') : if Region.wanted o (yielded ops a.tmps) = true then Oper.wp Tryz.prog o a w K Q else E := by
  have hw : Region.wanted o (yielded ops a.tmps) = true := by simp [Region.wanted, hgd]
  rw [if_pos hw]
  obtain ⟨i0, hi, hz0, hz1, hz2⟩ := info_parts info_u8
  rcases hr with rfl | ⟨ad, m, c, rfl⟩
  · have hL : L = [] := List.eq_nil_of_length_eq_zero hb.slice_len.1
    subst hL
    have hrun := run_append_owned_none (P := Tryz.prog) (w := w) base 33 o.type 5 i0 1 Tryz.underlying33 hi v M.length _ hown.own
    unfold Oper.wp
    simp [execOp, ho, resolve, invoke, builtin, hs, hx, hrun, Result.andThen]
    exact h v w (by rw [List.append_nil]; exact hown) ⟨rfl, rfl, rfl, Nat.le_refl _, fun _ _ _ => rfl⟩
  · obtain ⟨hm, hmc⟩ := hb.slice_len
    refine wp_append_own w s x 33 ho base 5 i0 (.int .u8 0) 1 1 Tryz.underlying33 hi hz0 hz1 hz2 rfl (by decide) v M.length _ hs hown.own ad m c (L.map byteV) hx (by rw [List.length_map, hm, Nat.mul_one]) ?_ one_bytes (by unfold maxLen; omega) (by omega) hbase ?_
    · intro j y hy
      have hj : j < L.length := by
        have := (List.getElem?_eq_some_iff.1 hy).1
        simpa using this
      rw [byteV_get hj] at hy
      cases hy
      obtain ⟨b, off, e, hb1, q⟩ := hb.cell hj
      cases e
      have ha : (⟨b, off, none⟩ : Addr).add j = ⟨b, off + j, none⟩ := by unfold Addr.add; split <;> simp_all
      rw [ha]
      exact q
    · intro v' w' h1 h2 _
      exact h v' w' ⟨by rw [List.length_append, List.map_append, hm]; exact h1, hown.small.append hb.small⟩ h2
end Go.Proofs.YtkefbmbjkijilaaGreatDoor
/- Ze -/
set_option linter.unusedVariables false
namespace Go.Proofs.YtkefbmbjkijilaaGreatDoor
open Go.RowKit

theorem keeps_setRow (W : World) (g : Nat) (cs : Array Value) : Keeps (· = g) W (W.setRow g cs) := ⟨rfl, rfl, rfl, by simp, fun b hb hn => setRow_other W g b cs hn⟩
theorem row_apart {w : World} {B e k n g T : Nat} {cs : Array Value} {v : Value} {xs : List Value} (h : w.ownsRow B e k v n xs) (hg : w.heap[g]? = some (.cells cs T (0, 0))) (hne : T ≠ e) : ∀ r, v.ownBlock = some r → ¬ r = g := by
  rintro r hr rfl
  rcases h.2 with ⟨rfl, _⟩ | ⟨g1, c1, cur1, rfl, _, hh1, _⟩
  · cases hr
  · obtain rfl : g1 = r := by simpa [Value.ownBlock] using hr
    rw [hg] at hh1
    injection hh1 with hh1
    injection hh1 with _ h2 _
    exact hne h2
theorem OwnSt.keepsT {w w' : World} {B g T : Nat} {cs : Array Value} {v : Value} {s : StD} (h : OwnSt w B v s) (kk : Keeps (· = g) w w') (hg : w.heap[g]? = some (.cells cs T (0, 0))) (hT : T ≠ 106 ∧ T ≠ 108 ∧ T ≠ 4 ∧ T ≠ 2) : OwnSt w' B v s := by
  obtain ⟨v0, v1, v2, v3, hv, h0, h1, h2, h3⟩ := h.it
  exact ⟨v0, v1, v2, v3, hv, ownsRow_keeps h0 kk (row_apart h0 hg hT.1), ownsRow_keeps h1 kk (row_apart h1 hg hT.2.1), ownsRow_keeps h2 kk (row_apart h2 hg hT.2.2.1), ownsRow_keeps h3 kk (row_apart h3 hg hT.2.2.2)⟩
theorem OB.keepsT {w w' : World} {B g T : Nat} {cs : Array Value} {v : Value} {L : List Nat} (h : OB w B v L) (kk : Keeps (· = g) w w') (hg : w.heap[g]? = some (.cells cs T (0, 0))) (hT : T ≠ 5) : OB w' B v L := ⟨ownsRow_keeps h.own kk (row_apart h.own hg hT), h.small⟩
/-- What makes an agent of the call's own answers. -/
def MadeAg (w : World) (d : PlanD) (s : StD) (st : List Nat) (e : Ending) (w' : World) : Prop := ∃ v, e = .returned v ∧ OwnAg w' w.heap.size v d s st ∧ Below w.heap.size w w'

end Go.Proofs.YtkefbmbjkijilaaGreatDoor
