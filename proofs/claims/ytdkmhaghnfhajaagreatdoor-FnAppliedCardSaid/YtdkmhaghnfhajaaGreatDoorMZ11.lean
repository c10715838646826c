/-
  The model's copy of an agent.
-/
import Derived.Test.YtdkmhaghnfhajaaGreatDoorMZ10
import Derived.Test.YtdkmhaghnfhajaaGreatDoorMZ0
import Derived.Test.YtdkmhaghnfhajaaGreatDoorMZ6
import Derived.Test.YtdkmhaghnfhajaaGreatDoorMZ8
import Derived.Test.YtdkmhaghnfhajaaGreatDoorMZ7
import Derived.Deep.RegionHeld3
import Derived.Laws.Tables
import Derived.Laws.CopyOwn
/- VbS -/
set_option linter.unusedVariables false
namespace Go.Proofs.YtdkmhaghnfhajaaGreatDoor
open Go.RowKit

set_option maxHeartbeats 2000000 in
theorem implStateOk_any (pv sv : Value) (d : PlanD) (s : StD) (w : World) (hp : IsPlan w w.heap.size pv d) (h : IsSt w w.heap.size sv s) :
    Calls Tryz.prog 27 #[pv, sv] w fun e w' => e = .returned (.bool (stOkB d s)) ∧ Below w.heap.size w w' := by
  have HP := Lib.hid hp
  obtain ⟨⟨A0, A1, A2, A3, c0, c1, c2, c3, rfl, -, -, -, -⟩, b0, b1, b2, b3⟩ := hp
  obtain ⟨⟨E0, E1, E2, E3, k0, k1, k2, k3, rfl, s0, s1, s2, s3⟩, d0, d1, d2, d3⟩ := h
  have HANS := Lib.hid (stOkB_right d s)
  have HR : Hid (∀ W, Below w.heap.size w W → Calls Tryz.prog 76 #[.agg (besC A0 A1 A2 A3 d.n0 c0 d.n1 c1 d.n2 c2 d.n3 c3 d.l d.p d.t E0 E1 E2 E3 s.pods.length k0 s.mnts.length k1 s.devs.length k2 s.lks.length k3 s.ph s.co s.ck s.bo s.ba s.lb s.gd s.pr)] W fun e w' => e = .returned (.bool (rightB d.n0 d.n2 d.n3 d.t s)) ∧ Below W.heap.size W w') := by
    refine Lib.hid fun W K => ?_
    refine (right_run (besC A0 A1 A2 A3 d.n0 c0 d.n1 c1 d.n2 c2 d.n3 c3 d.l d.p d.t E0 E1 E2 E3 s.pods.length k0 s.mnts.length k1 s.devs.length k2 s.lks.length k3 s.ph s.co s.ck s.bo s.ba s.lb s.gd s.pr) s.ph s.ck s.bo s.ba s.lb s.gd s.pr d.t s.co E0 E1 E3 s.pods.length k0 s.mnts.length k1 s.lks.length k3 W
      _ _ _ _ _ _ rfl rfl rfl rfl rfl rfl rfl rfl rfl rfl rfl rfl rfl
      (fun W' _ => countsRight_any A0 A1 A2 A3 d.n0 c0 d.n1 c1 d.n2 c2 d.n3 c3 d.l d.p d.t E0 E1 E2 E3 s.pods.length k0 s.mnts.length k1 s.devs.length k2 s.lks.length k3 s.ph s.co s.ck s.bo s.ba s.lb s.gd s.pr W' b0 b2 b3 d0 d1 d2)
      (fun W' _ => numbersRight_any s.ph s.ck s.bo s.ba s.lb s.gd s.pr W')
      (fun W' _ => probesRight_any s.ph s.ck s.bo s.ba s.lb s.gd s.pr d.t W')
      (fun W' K' => all_besPods A0 A1 A2 A3 d.n0 c0 d.n1 c1 d.n2 c2 d.n3 c3 d.l d.p d.t E0 E1 E2 E3 s.pods.length k0 s.mnts.length k1 s.devs.length k2 s.lks.length k3 s.ph s.co s.ck s.bo s.ba s.lb s.gd s.pr s.pods w W' (K.trans (K'.mono K.size)) rfl s0 d0)
      (fun W' K' => all_besMounts A0 A1 A2 A3 d.n0 c0 d.n1 c1 d.n2 c2 d.n3 c3 d.l d.p d.t E0 E1 E2 E3 s.pods.length k0 s.mnts.length k1 s.devs.length k2 s.lks.length k3 s.ph s.co s.ck s.bo s.ba s.lb s.gd s.pr s.mnts w W' (K.trans (K'.mono K.size)) rfl s1 d1)
      (fun W' K' => all_besLocks A0 A1 A2 A3 d.n0 c0 d.n1 c1 d.n2 c2 d.n3 c3 d.l d.p d.t E0 E1 E2 E3 s.pods.length k0 s.mnts.length k1 s.devs.length k2 s.lks.length k3 s.ph s.co s.ck s.bo s.ba s.lb s.gd s.pr s.lks w W' (K.trans (K'.mono K.size)) rfl s3 d3)).mono ?_
    rintro e w' ⟨rfl, hb⟩
    exact ⟨rfl, hb⟩
  clear s0 s1 s2 s3 b0 b1 b2 b3 d0 d1 d2 d3
  have T0 := Two.start w (planC A0 A1 A2 A3 d.n0 c0 d.n1 c1 d.n2 c2 d.n3 c3 d.l d.p d.t) (stC E0 E1 E2 E3 s.pods.length k0 s.mnts.length k1 s.devs.length k2 s.lks.length k3 s.ph s.co s.ck s.bo s.ba s.lb s.gd s.pr) 29 34
  generalize stOkB d s = ans at *
  generalize rightB d.n0 d.n2 d.n3 d.t s = rt at *
  go_enter Tryz.func27, Tryz.ntmps27
  go_wp2_with fail
  refine (planOk_any _ d _ ((HP.out.below T0.A.K (Nat.le_refl _)).more T0.A.K.size)).mono ?_
  rintro e w1 ⟨rfl, hb1⟩
  have X := T0.step hb1
  have hC := X.A.C
  have hD := X.O.C
  clear T0 hb1
  cases h0 : planOkB d
  · have H0 := Lib.hid h0
    clear h0
    go_wp2_with fail
    go_ret
    exact ⟨ret_bool (by rw [HANS.out, H0.out]; simp), X.A.K⟩
  · have H0 := Lib.hid h0
    clear h0
    go_wp2_with fail
    refine (besidePlan_any A0 A1 A2 A3 d.n0 c0 d.n1 c1 d.n2 c2 d.n3 c3 d.l d.p d.t E0 E1 E2 E3 s.pods.length k0 s.mnts.length k1 s.devs.length k2 s.lks.length k3 s.ph s.co s.ck s.bo s.ba s.lb s.gd s.pr _).mono ?_
    rintro e w2 ⟨rfl, hb2⟩
    have X2 := X.step hb2
    clear hb2 X hC hD
    go_wp2_with fail
    refine (HR.out _ X2.A.K).mono ?_
    rintro e w3 ⟨rfl, hb3⟩
    have X3 := X2.step hb3
    clear hb3 X2
    go_wp2
    go_ret
    exact ⟨ret_bool (by rw [HANS.out, H0.out]; simp), X3.A.K⟩
end Go.Proofs.YtdkmhaghnfhajaaGreatDoor
/- Zd -/
set_option linter.unusedVariables false
namespace Go.Proofs.YtdkmhaghnfhajaaGreatDoor
open Go.RowKit

/-- The cells of an agent. -/
abbrev agC (p0 p1 p2 p3 : Value) (l p t ph : Int) (co : Bool) (ck bo ba lb : Int) (s0 s1 s2 s3 : Value) (gd pr : Int) (b : Value) : Array Value :=
  #[p0, p1, p2, p3, .int .i64 l, .int .i64 p, .int .i64 t, .int .i64 ph, .bool co, .int .i64 ck, .int .i64 bo, .int .i64 ba, .int .i64 lb, s0, s1, s2, s3, .int .i64 gd, .int .i64 pr, b]
/-- An agent that can be read below block B. -/
structure IsAg (w : World) (B : Nat) (v : Value) (d : PlanD) (s : StD) (st : List Nat) : Prop where
  it : ∃ p0 p1 p2 p3 s0 s1 s2 s3 b, v = .agg (agC p0 p1 p2 p3 d.l d.p d.t s.ph s.co s.ck s.bo s.ba s.lb s0 s1 s2 s3 s.gd s.pr b) ∧ IsPlR w B (.agg #[p0, p1, p2, p3, .int .i64 d.l, .int .i64 d.p, .int .i64 d.t]) d ∧ IsStR w B (.agg #[.int .i64 s.ph, .bool s.co, .int .i64 s.ck, .int .i64 s.bo, .int .i64 s.ba, .int .i64 s.lb, s0, s1, s2, s3, .int .i64 s.gd, .int .i64 s.pr]) s ∧ Bt w B b st ∧ Real b
theorem IsAg.below {w w' : World} {B B' : Nat} {v : Value} {d : PlanD} {s : StD} {st : List Nat} (h : IsAg w B v d s st) (hb : Below B' w w') (hB : B ≤ B') : IsAg w' B v d s st := by
  obtain ⟨p0, p1, p2, p3, s0, s1, s2, s3, b, hv, h0, h1, h2, h3⟩ := h.it
  exact ⟨p0, p1, p2, p3, s0, s1, s2, s3, b, hv, h0.below hb hB, h1.below hb hB, h2.below hb hB, h3⟩
theorem IsAg.more {w : World} {B B' : Nat} {v : Value} {d : PlanD} {s : StD} {st : List Nat} (h : IsAg w B v d s st) (hB : B ≤ B') : IsAg w B' v d s st := by
  obtain ⟨p0, p1, p2, p3, s0, s1, s2, s3, b, hv, h0, h1, h2, h3⟩ := h.it
  exact ⟨p0, p1, p2, p3, s0, s1, s2, s3, b, hv, h0.more hB, h1.more hB, h2.more hB, h3⟩
theorem IsAg.go {w w' : World} {v : Value} {d : PlanD} {s : StD} {st : List Nat} (h : IsAg w w.heap.size v d s st) (hb : Below w.heap.size w w') : IsAg w' w'.heap.size v d s st := (h.below hb (Nat.le_refl _)).more hb.size
/-- Two rows of one type lie in blocks of their own. -/
def Apart (u v : Value) : Prop := ∀ r, u.ownBlock = some r → v.ownBlock = some r → False
/-- An agent of the call's own. -/
structure OwnAg (w : World) (B : Nat) (v : Value) (d : PlanD) (s : StD) (st : List Nat) : Prop where
  it : ∃ p0 p1 p2 p3 s0 s1 s2 s3 b, v = .agg (agC p0 p1 p2 p3 d.l d.p d.t s.ph s.co s.ck s.bo s.ba s.lb s0 s1 s2 s3 s.gd s.pr b) ∧ Lists w B p0 p1 p2 p3 d ∧ OwnSt w B (.agg #[.int .i64 s.ph, .bool s.co, .int .i64 s.ck, .int .i64 s.bo, .int .i64 s.ba, .int .i64 s.lb, s0, s1, s2, s3, .int .i64 s.gd, .int .i64 s.pr]) s ∧ OB w B b st ∧ Apart p1 s3
theorem OwnAg.below {w w' : World} {B : Nat} {v : Value} {d : PlanD} {s : StD} {st : List Nat} (h : OwnAg w B v d s st) (hb : Below w.heap.size w w') : OwnAg w' B v d s st := by
  obtain ⟨p0, p1, p2, p3, s0, s1, s2, s3, b, hv, h0, h1, h2, h4⟩ := h.it
  exact ⟨p0, p1, p2, p3, s0, s1, s2, s3, b, hv, h0.below hb, h1.below hb, h2.below hb, h4⟩
theorem OwnAg.base {w : World} {B B' : Nat} {v : Value} {d : PlanD} {s : StD} {st : List Nat} (h : OwnAg w B v d s st) (hB : B' ≤ B) : OwnAg w B' v d s st := by
  obtain ⟨p0, p1, p2, p3, s0, s1, s2, s3, b, hv, h0, h1, h2, h4⟩ := h.it
  exact ⟨p0, p1, p2, p3, s0, s1, s2, s3, b, hv, h0.base hB, h1.base hB, h2.base hB, h4⟩
theorem OwnAg.is {w : World} {B : Nat} {v : Value} {d : PlanD} {s : StD} {st : List Nat} (h : OwnAg w B v d s st) (hd : PlFits d) (hs : StFits s 1048576) : IsAg w w.heap.size v d s st := by
  obtain ⟨p0, p1, p2, p3, s0, s1, s2, s3, b, hv, h0, h1, h2, h4⟩ := h.it
  exact ⟨p0, p1, p2, p3, s0, s1, s2, s3, b, hv, h0.plR hd, h1.isR hs, h2.bt, h2.real⟩
theorem row_grown {w w' : World} {B e k n B' e' k' n' : Nat} {v v' : Value} {xs xs' : List Value} (h : w.ownsRow B e k v n xs) (h' : w.ownsRow B' e' k' v' n' xs') (hne : e' ≠ e) (hg : w.grownBy w' v'.ownBlock) : w'.ownsRow B e k v n xs :=
  ownsRow_keeps (S := fun b => v'.ownBlock = some b) h ⟨hg.os, hg.tape, hg.output, hg.size, fun b hb hn => hg.block b hb fun e => hn e.symm⟩ fun r hr hs => hne (row_type h' h hs hr)
theorem Lists.grown {w w' : World} {B B' : Nat} {v0 v1 v2 v3 u : Value} {d : PlanD} {M : List Nat} (h : Lists w B v0 v1 v2 v3 d) (h' : OB w B' u M) (hg : w.grownBy w' u.ownBlock) : Lists w' B v0 v1 v2 v3 d := by
  obtain ⟨⟨a, ha, ha'⟩, ⟨b, hb1, hb2⟩, ⟨c, hc, hc'⟩, ⟨e, he, he'⟩⟩ := h
  exact ⟨⟨a, row_grown ha h'.own (by decide) hg, ha'⟩, ⟨b, row_grown hb1 h'.own (by decide) hg, hb2⟩, ⟨c, row_grown hc h'.own (by decide) hg, hc'⟩, ⟨e, row_grown he h'.own (by decide) hg, he'⟩⟩
theorem OwnSt.grown {w w' : World} {B B' : Nat} {v u : Value} {s : StD} {M : List Nat} (h : OwnSt w B v s) (h' : OB w B' u M) (hg : w.grownBy w' u.ownBlock) : OwnSt w' B v s := by
  obtain ⟨v0, v1, v2, v3, hv, h0, h1, h2, h3⟩ := h.it
  exact ⟨v0, v1, v2, v3, hv, row_grown h0 h'.own (by decide) hg, row_grown h1 h'.own (by decide) hg, row_grown h2 h'.own (by decide) hg, row_grown h3 h'.own (by decide) hg⟩
theorem OI.lt {w : World} {B e k n : Nat} {v : Value} {x : Nat → Int} (h : OI w B e k v n x) {r : Nat} (hr : v.ownBlock = some r) : r < w.heap.size := by
  obtain ⟨cs, hb⟩ := h.block hr
  exact (Array.getElem?_eq_some_iff.1 hb).1
theorem apart_of {w W : World} {B e k n e' k' n' : Nat} {u v : Value} {x : Nat → Int} {xs : List Value} (h : OI w B e k u n x) (h' : W.ownsRow w.heap.size e' k' v n' xs) : Apart u v := fun r h1 h2 => by
  have := h.lt h1
  have := (h'.lt r h2).1
  omega
/-- A world reached from the one at hand. -/
def From {w wc : World} (_ : Below w.heap.size w wc) (W : World) : Prop := Below wc.heap.size wc W
abbrev endOf {w wc : World} (_ : Below w.heap.size w wc) : World := wc
theorem From.same {w wc : World} (K : Below w.heap.size w wc) : From K wc := Below.refl _ _
theorem From.drew {w wc : World} (K : Below w.heap.size w wc) : From K wc.drew := (Below.refl _ _).drew
theorem From.alloc {w wc : World} (K : Below w.heap.size w wc) (ob : Obj) : From K (wc.alloc ob) := (Below.refl _ _).alloc (Nat.le_refl _) ob
theorem From.it {w wc W : World} {K : Below w.heap.size w wc} (h : From K W) : Below wc.heap.size wc W := h
theorem From.all {w wc W : World} {K : Below w.heap.size w wc} (h : From K W) : Below w.heap.size w W := K.trans ((From.it h).mono K.size)
theorem calls_from {P : Program} {f : FuncId} {args : Array Value} {Q : Ending → World → Prop} {W : World} (R : World → Prop) (h : R W) (k : ∀ W', R W' → Calls P f args W' Q) : Calls P f args W Q := k W h
theorem step_from {P : Program} {ops : Array Oper} {o : Oper} {a : Act} {K : Act → World → Prop} {Q : Exit → Act → World → Prop} {W : World} (R : World → Prop) (h : R W)
    (k : ∀ W', R W' → if Region.wanted o (yielded ops a.tmps) = true then Oper.wp P o a W' K Q else K (a.put o.dst undef) W') : if Region.wanted o (yielded ops a.tmps) = true then Oper.wp P o a W K Q else K (a.put o.dst undef) W := k W h
theorem cell_far {W : World} {p : Addr} {v : Value} {g o : Nat} (h : p.block ≠ g) : (W.setCell p v).cell? ⟨g, o, none⟩ = W.cell? ⟨g, o, none⟩ := World.cell?_setCell_other _ _ _ _ (fun e => h (by rw [e]))
section
variable (W : World) (g : Nat) (x0 x1 x2 x3 x4 x5 x6 x7 x8 x9 x10 x11 x12 x13 x14 x15 x16 x17 x18 x19 : Value)
end
/-- At a step of a region that draws: bytes that lie somewhere appended to bytes of the call's own. -/
theorem step_append_bt {w : World} {ops : Array Oper} {o : Oper} {a : Act} {K : Act → World → Prop} {Q : Exit → Act → World → Prop} {E : Prop} (hgd : o.guard = none) (s x : Operand)
    (ho : o.op = .call { callee := .builtin .append, args := #[s, x], argTypes := #[22, 22] }) (base : Nat) (v : Value) (M : List Nat) (hs : a.eval s = v) (hown : OB w base v M)
    (u : Value) (L : List Nat) (hx : a.eval x = u) {B : Nat} (hb : Bt w B u L) (hr : Real u) (hlen : M.length + L.length ≤ 8388608) (hbase : base ≤ w.heap.size)
    (h : ∀ v' w', OB w' base v' (M ++ L) → w.grownBy w' v.ownBlock → K (a.put o.dst v') w') : if Region.wanted o (yielded ops a.tmps) = true then Oper.wp Tryz.prog o a w K Q else E := by
  have hw : Region.wanted o (yielded ops a.tmps) = true := by simp [Region.wanted, hgd]
  rw [if_pos hw]
  obtain ⟨i0, hi, hz0, hz1, hz2⟩ := info_parts info_u8
  rcases hr with rfl | ⟨ad, m, c, rfl⟩
  · have hL : L = [] := List.eq_nil_of_length_eq_zero hb.slice_len.1
    subst hL
    have hrun := run_append_owned_none (P := Tryz.prog) (w := w) base 22 o.type 5 i0 1 Tryz.underlying22 hi v M.length _ hown.own
    unfold Oper.wp
    simp [execOp, ho, resolve, invoke, builtin, hs, hx, hrun, Result.andThen]
    exact h v w (by rw [List.append_nil]; exact hown) ⟨rfl, rfl, rfl, Nat.le_refl _, fun _ _ _ => rfl⟩
  · obtain ⟨hm, hmc⟩ := hb.slice_len
    refine wp_append_own w s x 22 ho base 5 i0 (.int .u8 0) 1 1 Tryz.underlying22 hi hz0 hz1 hz2 rfl (by decide) v M.length _ hs hown.own ad m c (L.map byteV) hx (by rw [List.length_map, hm, Nat.mul_one]) ?_ one_bytes (by unfold maxLen; omega) (by omega) hbase ?_
    · intro j y hy
      have hj : j < L.length := by
        have := (List.getElem?_eq_some_iff.1 hy).1
        simpa using this
      rw [byteV_get hj] at hy
      cases hy
      obtain ⟨b, off, e, hb1, q⟩ := hb.cell hj
      cases e
      have ha : (⟨b, off, none⟩ : Addr).add j = ⟨b, off + j, none⟩ := by unfold Addr.add; split <;> simp_all
      rw [ha]
      exact q
    · intro v' w' h1 h2 _
      exact h v' w' ⟨by rw [List.length_append, List.map_append, hm]; exact h1, hown.small.append hb.small⟩ h2
end Go.Proofs.YtdkmhaghnfhajaaGreatDoor
/- Ze -/
set_option linter.unusedVariables false
namespace Go.Proofs.YtdkmhaghnfhajaaGreatDoor
open Go.RowKit

theorem keeps_setRow (W : World) (g : Nat) (cs : Array Value) : Keeps (· = g) W (W.setRow g cs) := ⟨rfl, rfl, rfl, by simp, fun b hb hn => setRow_other W g b cs hn⟩
theorem row_apart {w : World} {B e k n g T : Nat} {cs : Array Value} {v : Value} {xs : List Value} (h : w.ownsRow B e k v n xs) (hg : w.heap[g]? = some (.cells cs T (0, 0))) (hne : T ≠ e) : ∀ r, v.ownBlock = some r → ¬ r = g := by
  rintro r hr rfl
  rcases h.2 with ⟨rfl, _⟩ | ⟨g1, c1, cur1, rfl, _, hh1, _⟩
  · cases hr
  · obtain rfl : g1 = r := by simpa [Value.ownBlock] using hr
    rw [hg] at hh1
    injection hh1 with hh1
    injection hh1 with _ h2 _
    exact hne h2
theorem OwnSt.keepsT {w w' : World} {B g T : Nat} {cs : Array Value} {v : Value} {s : StD} (h : OwnSt w B v s) (kk : Keeps (· = g) w w') (hg : w.heap[g]? = some (.cells cs T (0, 0))) (hT : T ≠ 62 ∧ T ≠ 83 ∧ T ≠ 4 ∧ T ≠ 2) : OwnSt w' B v s := by
  obtain ⟨v0, v1, v2, v3, hv, h0, h1, h2, h3⟩ := h.it
  exact ⟨v0, v1, v2, v3, hv, ownsRow_keeps h0 kk (row_apart h0 hg hT.1), ownsRow_keeps h1 kk (row_apart h1 hg hT.2.1), ownsRow_keeps h2 kk (row_apart h2 hg hT.2.2.1), ownsRow_keeps h3 kk (row_apart h3 hg hT.2.2.2)⟩
theorem OB.keepsT {w w' : World} {B g T : Nat} {cs : Array Value} {v : Value} {L : List Nat} (h : OB w B v L) (kk : Keeps (· = g) w w') (hg : w.heap[g]? = some (.cells cs T (0, 0))) (hT : T ≠ 5) : OB w' B v L := ⟨ownsRow_keeps h.own kk (row_apart h.own hg hT), h.small⟩
/-- What makes an agent of the call's own answers. -/
def MadeAg (w : World) (d : PlanD) (s : StD) (st : List Nat) (e : Ending) (w' : World) : Prop := ∃ v, e = .returned v ∧ OwnAg w' w.heap.size v d s st ∧ Below w.heap.size w w'

set_option maxRecDepth 100000 in
set_option maxHeartbeats 8000000 in
theorem l15Copy_any (v : Value) (d : PlanD) (s : StD) (st : List Nat) (w : World) (h : IsAg w w.heap.size v d s st) (hst : st.length ≤ 8388608) : Calls Tryz.prog 208 #[v] w (MadeAg w d s st) := by
  obtain ⟨p0, p1, p2, p3, s0, s1, s2, s3, b, rfl, hp, hs, hb, hr⟩ := h.it
  have HP := Lib.hid hp
  have HS := Lib.hid hs
  have HB := Lib.hid hb
  have HR := Lib.hid hr
  have HI : Hid ((Tryz.prog.info? 143).map (·.size) = some 20) := Lib.hid (by kernel_rfl)
  have T0 := Two.start w (agC p0 p1 p2 p3 d.l d.p d.t s.ph s.co s.ck s.bo s.ba s.lb s0 s1 s2 s3 s.gd s.pr b) (agC (.slice none 0 0) (.slice none 0 0) (.slice none 0 0) (.slice none 0 0) 0 0 0 0 false 0 0 0 0 (.slice none 0 0) (.slice none 0 0) (.slice none 0 0) (.slice none 0 0) 0 0 (.slice none 0 0)) 143 143
  have HH := heap_alloc2_new w (.cells (agC p0 p1 p2 p3 d.l d.p d.t s.ph s.co s.ck s.bo s.ba s.lb s0 s1 s2 s3 s.gd s.pr b) 143) (.cells (agC (.slice none 0 0) (.slice none 0 0) (.slice none 0 0) (.slice none 0 0) 0 0 0 0 false 0 0 0 0 (.slice none 0 0) (.slice none 0 0) (.slice none 0 0) (.slice none 0 0) 0 0 (.slice none 0 0)) 143)
  clear h hp hs hb hr
  go_enter Tryz.func208, Tryz.ntmps208
  go_upto_region 1 with fail
  generalize (w.alloc (.cells (agC p0 p1 p2 p3 d.l d.p d.t s.ph s.co s.ck s.bo s.ba s.lb s0 s1 s2 s3 s.gd s.pr b) 143)).alloc (.cells (agC (.slice none 0 0) (.slice none 0 0) (.slice none 0 0) (.slice none 0 0) 0 0 0 0 false 0 0 0 0 (.slice none 0 0) (.slice none 0 0) (.slice none 0 0) (.slice none 0 0) 0 0 (.slice none 0 0)) 143) = w1 at T0 HH ⊢
  refine wp_region_noPanic ?_
  refine wp_region_held_drew (S := (fun W => ∀ o, W.cell? ⟨w.heap.size, o, none⟩ = (agC p0 p1 p2 p3 d.l d.p d.t s.ph s.co s.ck s.bo s.ba s.lb s0 s1 s2 s3 s.gd s.pr b)[o]?)) (by kernel_rfl) ((T0.step (Below.refl _ _).drew).A.C) (fun hS => ?_)
  replace T0 := T0.step (Below.refl _ _).drew
  rw [← heap_drew w1] at HH
  generalize w1.drew = w0 at T0 HH hS ⊢
  have K : Below w0.heap.size w0 w0 := Below.refl _ _
  have S0 := T0.A.C
  have hw0 := T0.A.z
  have hw1 := T0.O.z
  refine wpAnyH_take (i := 0) (v := ?_) rfl (by kernel_rfl) (by kernel_rfl) (by kernel_rfl) (fun _ _ _ h => h) (Or.inl ⟨by rfl, ?_⟩) hS ?_
  rotate_left 1
  · intro w hSw
    (try dsimp only at hSw)
    go_simp
    try with_reducible rfl
  change wpAnyH _ _ _ _ _ _ _ (Act.put _ (some 3) _) _
  dsimp only [Act.put]
  refine wpAnyH_take (i := 1) (v := ?_) rfl (by kernel_rfl) (by kernel_rfl) (by kernel_rfl) (fun _ _ _ h => h) (Or.inl ⟨by rfl, ?_⟩) hS ?_
  rotate_left 1
  · intro w hSw
    (try dsimp only at hSw)
    go_simp
    try with_reducible rfl
  change wpAnyH _ _ _ _ _ _ _ (Act.put _ (some 4) _) _
  dsimp only [Act.put]
  refine wpAnyH_take (i := 3) (v := ?_) rfl (by kernel_rfl) (by kernel_rfl) (by kernel_rfl) (fun _ _ _ h => h) (Or.inl ⟨by rfl, ?_⟩) hS ?_
  rotate_left 1
  · intro w hSw
    (try dsimp only at hSw)
    go_simp
    try with_reducible rfl
  change wpAnyH _ _ _ _ _ _ _ (Act.put _ (some 6) _) _
  dsimp only [Act.put]
  refine wpAnyH_take (i := 4) (v := ?_) rfl (by kernel_rfl) (by kernel_rfl) (by kernel_rfl) (fun _ _ _ h => h) (Or.inl ⟨by rfl, ?_⟩) hS ?_
  rotate_left 1
  · intro w hSw
    (try dsimp only at hSw)
    go_simp
    try with_reducible rfl
  change wpAnyH _ _ _ _ _ _ _ (Act.put _ (some 7) _) _
  dsimp only [Act.put]
  refine wpAnyH_take (i := 7) (v := ?_) rfl (by kernel_rfl) (by kernel_rfl) (by kernel_rfl) (fun _ _ _ h => h) (Or.inl ⟨by rfl, ?_⟩) hS ?_
  rotate_left 1
  · intro w hSw
    (try dsimp only at hSw)
    go_simp
    try with_reducible rfl
  change wpAnyH _ _ _ _ _ _ _ (Act.put _ (some 10) _) _
  dsimp only [Act.put]
  refine wpAnyH_take (i := 8) (v := ?_) rfl (by kernel_rfl) (by kernel_rfl) (by kernel_rfl) (fun _ _ _ h => h) (Or.inl ⟨by rfl, ?_⟩) hS ?_
  rotate_left 1
  · intro w hSw
    (try dsimp only at hSw)
    go_simp
    try with_reducible rfl
  change wpAnyH _ _ _ _ _ _ _ (Act.put _ (some 11) _) _
  dsimp only [Act.put]
  refine wpAnyH_ready (rs := [2, 6]) (by kernel_rfl) (by simp) ?_
  refine AllReadyH.cons rfl (fun K' hK => ?_) ?_
  · skip
    go_simp
    go_at_call 206
    first
    | (with_reducible refine calls_from (fun W' => From K W' ∧ OB W' w.heap.size (.slice (some ⟨(endOf K).heap.size, 0, none⟩) 0 0) []) ⟨From.alloc K _, OB.empty (T0.step K).A.K.size⟩ ?_
       rintro W' ⟨hW, Eb⟩
       have hE := K.size)
    | (with_reducible refine calls_from (From K) (From.same K) ?_
       intro W' hW
       try replace Eb := Eb.below hW.it)
    have TW := T0.step hW.all
    try replace Lp := Lp.below hW.it
    try replace Os := Os.below hW.it
    try replace Ob := Ob.below hW.it
    refine (l15PlanCopy_any _ d W' ((HP.out.below TW.A.K (Nat.le_refl _)).more TW.A.K.size)).mono ?_
    rintro e wn ⟨q0, q1, q2, q3, rfl, Lp_, hb⟩
    have Lp := Lp_.base TW.A.K.size
    obtain ⟨Q0, e0, rfl, -, -⟩ := Lp_.o0.formR
    obtain ⟨Q1, e1, rfl, -, -⟩ := Lp_.o1.formR
    obtain ⟨Q2, e2, rfl, -, -⟩ := Lp_.o2.formR
    obtain ⟨Q3, e3, rfl, -, -⟩ := Lp_.o3.formR
    clear Lp_
    try replace Eb := Eb.below hb
    try replace Lp := Lp.below hb
    try replace Os := Os.below hb
    replace K := hW.all.trans (hb.mono hW.all.size)
    clear hb hW TW
    go_wp2_with fail
    refine hK.out _ _ (fun o => (Below.cell (p := ⟨w.heap.size, o, none⟩) K hw0).trans (S0 o)) (fun hS => ?_)
    clear hK K'
    skip
    refine wpAnyH_ready (rs := [5, 6]) (by kernel_rfl) (by simp) ?_
    refine AllReadyH.cons rfl (fun K' hK => ?_) ?_
    · skip
      go_simp
      go_at_call 50
      first
      | (with_reducible refine calls_from (fun W' => From K W' ∧ OB W' w.heap.size (.slice (some ⟨(endOf K).heap.size, 0, none⟩) 0 0) []) ⟨From.alloc K _, OB.empty (T0.step K).A.K.size⟩ ?_
         rintro W' ⟨hW, Eb⟩
         have hE := K.size)
      | (with_reducible refine calls_from (From K) (From.same K) ?_
         intro W' hW
         try replace Eb := Eb.below hW.it)
      have TW := T0.step hW.all
      try replace Lp := Lp.below hW.it
      try replace Os := Os.below hW.it
      try replace Ob := Ob.below hW.it
      refine (l5Copy_any _ s W' ((HS.out.below TW.A.K (Nat.le_refl _)).more TW.A.K.size)).mono ?_
      rintro e wn ⟨v5, rfl, Os_, hb⟩
      have Os := Os_.base TW.A.K.size
      obtain ⟨y0, y1, y2, y3, rfl, z0, z1, z2, z3⟩ := Os_.it
      have AP := apart_of Lp.o1 z3
      obtain ⟨Y0, f0, rfl, -⟩ := open_rowR z0
      obtain ⟨Y1, f1, rfl, -⟩ := open_rowR z1
      obtain ⟨Y2, f2, rfl, -⟩ := open_rowR z2
      obtain ⟨Y3, f3, rfl, -⟩ := open_rowR z3
      clear Os_ z0 z1 z2 z3
      try replace Eb := Eb.below hb
      try replace Lp := Lp.below hb
      try replace Os := Os.below hb
      replace K := hW.all.trans (hb.mono hW.all.size)
      clear hb hW TW
      go_wp2_with fail
      refine hK.out _ _ (fun o => (Below.cell (p := ⟨w.heap.size, o, none⟩) K hw0).trans (S0 o)) (fun hS => ?_)
      clear hK K'
      skip
      refine wpAnyH_ready (rs := [6]) (by kernel_rfl) (by simp) ?_
      refine AllReadyH.cons rfl (fun K' hK => ?_) ?_
      · skip
        go_simp
        have KA := (From.alloc K (.cells #[] 5)).all
        refine hK.out _ _ (fun o => (Below.cell (p := ⟨w.heap.size, o, none⟩) KA hw0).trans (S0 o)) (fun hS => ?_)
        clear hK K'
        skip
        clear KA
        refine wpAnyH_ready (rs := [9]) (by kernel_rfl) (by simp) ?_
        refine AllReadyH.cons rfl (fun K' hK => ?_) ?_
        · skip
          first
          | (with_reducible refine step_from (fun W' => From K W' ∧ OB W' w.heap.size (.slice (some ⟨(endOf K).heap.size, 0, none⟩) 0 0) []) ⟨From.alloc K _, OB.empty (T0.step K).A.K.size⟩ ?_
             rintro W' ⟨hW, Eb⟩
             have hE := K.size)
          | (with_reducible refine step_from (From K) (From.same K) ?_
             intro W' hW
             try replace Eb := Eb.below hW.it)
          have TW := T0.step hW.all
          try replace Lp := Lp.below hW.it
          try replace Os := Os.below hW.it
          try replace Ob := Ob.below hW.it
          refine step_append_bt rfl _ _ rfl w.heap.size _ [] rfl Eb b st rfl (HB.out.below TW.A.K (Nat.le_refl _)) HR.out (by simpa using hst) TW.A.K.size ?_
          intro vb wn Ob hgr
          replace Lp := Lp.grown Eb hgr
          replace Os := Os.grown Eb hgr
          replace K := hW.all.grown hgr hW.all.size (fun r hr => Nat.le_trans hE (Nat.le_of_eq (Option.some.inj hr)))
          obtain ⟨Ab, cb, -, rfl, -⟩ := Ob.open_
          clear Eb hgr hE hW TW
          refine hK.out _ _ (fun o => (Below.cell (p := ⟨w.heap.size, o, none⟩) K hw0).trans (S0 o)) (fun hS => ?_)
          clear hK K'
          change wpAnyH _ _ _ _ _ _ _ (Act.put _ (some 12) _) _
          dsimp only [Act.put]
          refine wpAnyH_take (i := 10) (v := ?_) rfl (by kernel_rfl) (by kernel_rfl) (by kernel_rfl) (fun _ _ _ h => h) (Or.inl ⟨by rfl, ?_⟩) hS ?_
          rotate_left 1
          · intro w hSw
            (try dsimp only at hSw)
            go_simp
            try with_reducible rfl
          change wpAnyH _ _ _ _ _ _ _ (Act.put _ (some 13) _) _
          dsimp only [Act.put]
          refine wpAnyH_ready (rs := [11]) (by kernel_rfl) (by simp) ?_
          refine AllReadyH.cons rfl (fun K' hK => ?_) AllReadyH.nil
          rw [if_pos (by rfl)]
          have hh := (K.block _ hw1).trans HH
          refine wp_store_row 143 (.tmp 2) (.tmp 13) rfl (w.heap.size + 1) (agC (.slice Q0 d.n0 e0) (.slice Q1 d.n1 e1) (.slice Q2 d.n2 e2) (.slice Q3 d.n3 e3) d.l d.p d.t s.ph s.co s.ck s.bo s.ba s.lb (.slice Y0 s.pods.length f0) (.slice Y1 s.mnts.length f1) (.slice Y2 s.devs.length f2) (.slice Y3 s.lks.length f3) s.gd s.pr (.slice Ab st.length cb)) rfl rfl 143 _ hh HI.out rfl (by simp [Value.oneCell']) ?_
          have KS : Keeps (· = w.heap.size + 1) wn (wn.setRow (w.heap.size + 1) (agC (.slice Q0 d.n0 e0) (.slice Q1 d.n1 e1) (.slice Q2 d.n2 e2) (.slice Q3 d.n3 e3) d.l d.p d.t s.ph s.co s.ck s.bo s.ba s.lb (.slice Y0 s.pods.length f0) (.slice Y1 s.mnts.length f1) (.slice Y2 s.devs.length f2) (.slice Y3 s.lks.length f3) s.gd s.pr (.slice Ab st.length cb))) := keeps_setRow ..
          refine hK.out _ _ (fun o => (KS.cell (p := ⟨w.heap.size, o, none⟩) (Nat.lt_of_lt_of_le hw0 K.size) (Nat.ne_of_lt (Nat.lt_succ_self _))).trans ((Below.cell (p := ⟨w.heap.size, o, none⟩) K hw0).trans (S0 o))) (fun hS => ?_)
          clear hK K'
          refine wpAnyH_done (by kernel_rfl) ?_ _
          refine NoPanic.normal ?_
          go_wp2_with fail
          exact bodyPost_ret (v := .agg (agC (.slice Q0 d.n0 e0) (.slice Q1 d.n1 e1) (.slice Q2 d.n2 e2) (.slice Q3 d.n3 e3) d.l d.p d.t s.ph s.co s.ck s.bo s.ba s.lb (.slice Y0 s.pods.length f0) (.slice Y1 s.mnts.length f1) (.slice Y2 s.devs.length f2) (.slice Y3 s.lks.length f3) s.gd s.pr (.slice Ab st.length cb))) (results_cell_row Tryz.results208 _ _ _ _ _ _ _ rfl (setRow_heap wn _ _ _ _ _ hh) Tryz.underlying143 rfl HI.out) rfl ⟨_, rfl, ⟨_, _, _, _, _, _, _, _, _, rfl, Lp.keeps KS hh (by decide), Os.keepsT KS hh (by decide), Ob.keepsT KS hh (by decide), AP⟩, below_setRow (T0.step K).A.K (Nat.le_succ _) _⟩
        exact AllReadyH.nil
      exact AllReadyH.nil
    refine AllReadyH.cons rfl (fun K' hK => ?_) ?_
    · skip
      go_simp
      have KA := (From.alloc K (.cells #[] 5)).all
      refine hK.out _ _ (fun o => (Below.cell (p := ⟨w.heap.size, o, none⟩) KA hw0).trans (S0 o)) (fun hS => ?_)
      clear hK K'
      skip
      clear KA
      refine wpAnyH_ready (rs := [5]) (by kernel_rfl) (by simp) ?_
      refine AllReadyH.cons rfl (fun K' hK => ?_) ?_
      · skip
        go_simp
        go_at_call 50
        first
        | (with_reducible refine calls_from (fun W' => From K W' ∧ OB W' w.heap.size (.slice (some ⟨(endOf K).heap.size, 0, none⟩) 0 0) []) ⟨From.alloc K _, OB.empty (T0.step K).A.K.size⟩ ?_
           rintro W' ⟨hW, Eb⟩
           have hE := K.size)
        | (with_reducible refine calls_from (From K) (From.same K) ?_
           intro W' hW
           try replace Eb := Eb.below hW.it)
        have TW := T0.step hW.all
        try replace Lp := Lp.below hW.it
        try replace Os := Os.below hW.it
        try replace Ob := Ob.below hW.it
        refine (l5Copy_any _ s W' ((HS.out.below TW.A.K (Nat.le_refl _)).more TW.A.K.size)).mono ?_
        rintro e wn ⟨v5, rfl, Os_, hb⟩
        have Os := Os_.base TW.A.K.size
        obtain ⟨y0, y1, y2, y3, rfl, z0, z1, z2, z3⟩ := Os_.it
        have AP := apart_of Lp.o1 z3
        obtain ⟨Y0, f0, rfl, -⟩ := open_rowR z0
        obtain ⟨Y1, f1, rfl, -⟩ := open_rowR z1
        obtain ⟨Y2, f2, rfl, -⟩ := open_rowR z2
        obtain ⟨Y3, f3, rfl, -⟩ := open_rowR z3
        clear Os_ z0 z1 z2 z3
        try replace Eb := Eb.below hb
        try replace Lp := Lp.below hb
        try replace Os := Os.below hb
        replace K := hW.all.trans (hb.mono hW.all.size)
        clear hb hW TW
        go_wp2_with fail
        refine hK.out _ _ (fun o => (Below.cell (p := ⟨w.heap.size, o, none⟩) K hw0).trans (S0 o)) (fun hS => ?_)
        clear hK K'
        skip
        refine wpAnyH_ready (rs := [9]) (by kernel_rfl) (by simp) ?_
        refine AllReadyH.cons rfl (fun K' hK => ?_) ?_
        · skip
          first
          | (with_reducible refine step_from (fun W' => From K W' ∧ OB W' w.heap.size (.slice (some ⟨(endOf K).heap.size, 0, none⟩) 0 0) []) ⟨From.alloc K _, OB.empty (T0.step K).A.K.size⟩ ?_
             rintro W' ⟨hW, Eb⟩
             have hE := K.size)
          | (with_reducible refine step_from (From K) (From.same K) ?_
             intro W' hW
             try replace Eb := Eb.below hW.it)
          have TW := T0.step hW.all
          try replace Lp := Lp.below hW.it
          try replace Os := Os.below hW.it
          try replace Ob := Ob.below hW.it
          refine step_append_bt rfl _ _ rfl w.heap.size _ [] rfl Eb b st rfl (HB.out.below TW.A.K (Nat.le_refl _)) HR.out (by simpa using hst) TW.A.K.size ?_
          intro vb wn Ob hgr
          replace Lp := Lp.grown Eb hgr
          replace Os := Os.grown Eb hgr
          replace K := hW.all.grown hgr hW.all.size (fun r hr => Nat.le_trans hE (Nat.le_of_eq (Option.some.inj hr)))
          obtain ⟨Ab, cb, -, rfl, -⟩ := Ob.open_
          clear Eb hgr hE hW TW
          refine hK.out _ _ (fun o => (Below.cell (p := ⟨w.heap.size, o, none⟩) K hw0).trans (S0 o)) (fun hS => ?_)
          clear hK K'
          change wpAnyH _ _ _ _ _ _ _ (Act.put _ (some 12) _) _
          dsimp only [Act.put]
          refine wpAnyH_take (i := 10) (v := ?_) rfl (by kernel_rfl) (by kernel_rfl) (by kernel_rfl) (fun _ _ _ h => h) (Or.inl ⟨by rfl, ?_⟩) hS ?_
          rotate_left 1
          · intro w hSw
            (try dsimp only at hSw)
            go_simp
            try with_reducible rfl
          change wpAnyH _ _ _ _ _ _ _ (Act.put _ (some 13) _) _
          dsimp only [Act.put]
          refine wpAnyH_ready (rs := [11]) (by kernel_rfl) (by simp) ?_
          refine AllReadyH.cons rfl (fun K' hK => ?_) AllReadyH.nil
          rw [if_pos (by rfl)]
          have hh := (K.block _ hw1).trans HH
          refine wp_store_row 143 (.tmp 2) (.tmp 13) rfl (w.heap.size + 1) (agC (.slice Q0 d.n0 e0) (.slice Q1 d.n1 e1) (.slice Q2 d.n2 e2) (.slice Q3 d.n3 e3) d.l d.p d.t s.ph s.co s.ck s.bo s.ba s.lb (.slice Y0 s.pods.length f0) (.slice Y1 s.mnts.length f1) (.slice Y2 s.devs.length f2) (.slice Y3 s.lks.length f3) s.gd s.pr (.slice Ab st.length cb)) rfl rfl 143 _ hh HI.out rfl (by simp [Value.oneCell']) ?_
          have KS : Keeps (· = w.heap.size + 1) wn (wn.setRow (w.heap.size + 1) (agC (.slice Q0 d.n0 e0) (.slice Q1 d.n1 e1) (.slice Q2 d.n2 e2) (.slice Q3 d.n3 e3) d.l d.p d.t s.ph s.co s.ck s.bo s.ba s.lb (.slice Y0 s.pods.length f0) (.slice Y1 s.mnts.length f1) (.slice Y2 s.devs.length f2) (.slice Y3 s.lks.length f3) s.gd s.pr (.slice Ab st.length cb))) := keeps_setRow ..
          refine hK.out _ _ (fun o => (KS.cell (p := ⟨w.heap.size, o, none⟩) (Nat.lt_of_lt_of_le hw0 K.size) (Nat.ne_of_lt (Nat.lt_succ_self _))).trans ((Below.cell (p := ⟨w.heap.size, o, none⟩) K hw0).trans (S0 o))) (fun hS => ?_)
          clear hK K'
          refine wpAnyH_done (by kernel_rfl) ?_ _
          refine NoPanic.normal ?_
          go_wp2_with fail
          exact bodyPost_ret (v := .agg (agC (.slice Q0 d.n0 e0) (.slice Q1 d.n1 e1) (.slice Q2 d.n2 e2) (.slice Q3 d.n3 e3) d.l d.p d.t s.ph s.co s.ck s.bo s.ba s.lb (.slice Y0 s.pods.length f0) (.slice Y1 s.mnts.length f1) (.slice Y2 s.devs.length f2) (.slice Y3 s.lks.length f3) s.gd s.pr (.slice Ab st.length cb))) (results_cell_row Tryz.results208 _ _ _ _ _ _ _ rfl (setRow_heap wn _ _ _ _ _ hh) Tryz.underlying143 rfl HI.out) rfl ⟨_, rfl, ⟨_, _, _, _, _, _, _, _, _, rfl, Lp.keeps KS hh (by decide), Os.keepsT KS hh (by decide), Ob.keepsT KS hh (by decide), AP⟩, below_setRow (T0.step K).A.K (Nat.le_succ _) _⟩
        exact AllReadyH.nil
      exact AllReadyH.nil
    exact AllReadyH.nil
  refine AllReadyH.cons rfl (fun K' hK => ?_) ?_
  · skip
    go_simp
    have KA := (From.alloc K (.cells #[] 5)).all
    refine hK.out _ _ (fun o => (Below.cell (p := ⟨w.heap.size, o, none⟩) KA hw0).trans (S0 o)) (fun hS => ?_)
    clear hK K'
    skip
    clear KA
    refine wpAnyH_ready (rs := [2]) (by kernel_rfl) (by simp) ?_
    refine AllReadyH.cons rfl (fun K' hK => ?_) ?_
    · skip
      go_simp
      go_at_call 206
      first
      | (with_reducible refine calls_from (fun W' => From K W' ∧ OB W' w.heap.size (.slice (some ⟨(endOf K).heap.size, 0, none⟩) 0 0) []) ⟨From.alloc K _, OB.empty (T0.step K).A.K.size⟩ ?_
         rintro W' ⟨hW, Eb⟩
         have hE := K.size)
      | (with_reducible refine calls_from (From K) (From.same K) ?_
         intro W' hW
         try replace Eb := Eb.below hW.it)
      have TW := T0.step hW.all
      try replace Lp := Lp.below hW.it
      try replace Os := Os.below hW.it
      try replace Ob := Ob.below hW.it
      refine (l15PlanCopy_any _ d W' ((HP.out.below TW.A.K (Nat.le_refl _)).more TW.A.K.size)).mono ?_
      rintro e wn ⟨q0, q1, q2, q3, rfl, Lp_, hb⟩
      have Lp := Lp_.base TW.A.K.size
      obtain ⟨Q0, e0, rfl, -, -⟩ := Lp_.o0.formR
      obtain ⟨Q1, e1, rfl, -, -⟩ := Lp_.o1.formR
      obtain ⟨Q2, e2, rfl, -, -⟩ := Lp_.o2.formR
      obtain ⟨Q3, e3, rfl, -, -⟩ := Lp_.o3.formR
      clear Lp_
      try replace Eb := Eb.below hb
      try replace Lp := Lp.below hb
      try replace Os := Os.below hb
      replace K := hW.all.trans (hb.mono hW.all.size)
      clear hb hW TW
      go_wp2_with fail
      refine hK.out _ _ (fun o => (Below.cell (p := ⟨w.heap.size, o, none⟩) K hw0).trans (S0 o)) (fun hS => ?_)
      clear hK K'
      skip
      refine wpAnyH_ready (rs := [5]) (by kernel_rfl) (by simp) ?_
      refine AllReadyH.cons rfl (fun K' hK => ?_) ?_
      · skip
        go_simp
        go_at_call 50
        first
        | (with_reducible refine calls_from (fun W' => From K W' ∧ OB W' w.heap.size (.slice (some ⟨(endOf K).heap.size, 0, none⟩) 0 0) []) ⟨From.alloc K _, OB.empty (T0.step K).A.K.size⟩ ?_
           rintro W' ⟨hW, Eb⟩
           have hE := K.size)
        | (with_reducible refine calls_from (From K) (From.same K) ?_
           intro W' hW
           try replace Eb := Eb.below hW.it)
        have TW := T0.step hW.all
        try replace Lp := Lp.below hW.it
        try replace Os := Os.below hW.it
        try replace Ob := Ob.below hW.it
        refine (l5Copy_any _ s W' ((HS.out.below TW.A.K (Nat.le_refl _)).more TW.A.K.size)).mono ?_
        rintro e wn ⟨v5, rfl, Os_, hb⟩
        have Os := Os_.base TW.A.K.size
        obtain ⟨y0, y1, y2, y3, rfl, z0, z1, z2, z3⟩ := Os_.it
        have AP := apart_of Lp.o1 z3
        obtain ⟨Y0, f0, rfl, -⟩ := open_rowR z0
        obtain ⟨Y1, f1, rfl, -⟩ := open_rowR z1
        obtain ⟨Y2, f2, rfl, -⟩ := open_rowR z2
        obtain ⟨Y3, f3, rfl, -⟩ := open_rowR z3
        clear Os_ z0 z1 z2 z3
        try replace Eb := Eb.below hb
        try replace Lp := Lp.below hb
        try replace Os := Os.below hb
        replace K := hW.all.trans (hb.mono hW.all.size)
        clear hb hW TW
        go_wp2_with fail
        refine hK.out _ _ (fun o => (Below.cell (p := ⟨w.heap.size, o, none⟩) K hw0).trans (S0 o)) (fun hS => ?_)
        clear hK K'
        skip
        refine wpAnyH_ready (rs := [9]) (by kernel_rfl) (by simp) ?_
        refine AllReadyH.cons rfl (fun K' hK => ?_) ?_
        · skip
          first
          | (with_reducible refine step_from (fun W' => From K W' ∧ OB W' w.heap.size (.slice (some ⟨(endOf K).heap.size, 0, none⟩) 0 0) []) ⟨From.alloc K _, OB.empty (T0.step K).A.K.size⟩ ?_
             rintro W' ⟨hW, Eb⟩
             have hE := K.size)
          | (with_reducible refine step_from (From K) (From.same K) ?_
             intro W' hW
             try replace Eb := Eb.below hW.it)
          have TW := T0.step hW.all
          try replace Lp := Lp.below hW.it
          try replace Os := Os.below hW.it
          try replace Ob := Ob.below hW.it
          refine step_append_bt rfl _ _ rfl w.heap.size _ [] rfl Eb b st rfl (HB.out.below TW.A.K (Nat.le_refl _)) HR.out (by simpa using hst) TW.A.K.size ?_
          intro vb wn Ob hgr
          replace Lp := Lp.grown Eb hgr
          replace Os := Os.grown Eb hgr
          replace K := hW.all.grown hgr hW.all.size (fun r hr => Nat.le_trans hE (Nat.le_of_eq (Option.some.inj hr)))
          obtain ⟨Ab, cb, -, rfl, -⟩ := Ob.open_
          clear Eb hgr hE hW TW
          refine hK.out _ _ (fun o => (Below.cell (p := ⟨w.heap.size, o, none⟩) K hw0).trans (S0 o)) (fun hS => ?_)
          clear hK K'
          change wpAnyH _ _ _ _ _ _ _ (Act.put _ (some 12) _) _
          dsimp only [Act.put]
          refine wpAnyH_take (i := 10) (v := ?_) rfl (by kernel_rfl) (by kernel_rfl) (by kernel_rfl) (fun _ _ _ h => h) (Or.inl ⟨by rfl, ?_⟩) hS ?_
          rotate_left 1
          · intro w hSw
            (try dsimp only at hSw)
            go_simp
            try with_reducible rfl
          change wpAnyH _ _ _ _ _ _ _ (Act.put _ (some 13) _) _
          dsimp only [Act.put]
          refine wpAnyH_ready (rs := [11]) (by kernel_rfl) (by simp) ?_
          refine AllReadyH.cons rfl (fun K' hK => ?_) AllReadyH.nil
          rw [if_pos (by rfl)]
          have hh := (K.block _ hw1).trans HH
          refine wp_store_row 143 (.tmp 2) (.tmp 13) rfl (w.heap.size + 1) (agC (.slice Q0 d.n0 e0) (.slice Q1 d.n1 e1) (.slice Q2 d.n2 e2) (.slice Q3 d.n3 e3) d.l d.p d.t s.ph s.co s.ck s.bo s.ba s.lb (.slice Y0 s.pods.length f0) (.slice Y1 s.mnts.length f1) (.slice Y2 s.devs.length f2) (.slice Y3 s.lks.length f3) s.gd s.pr (.slice Ab st.length cb)) rfl rfl 143 _ hh HI.out rfl (by simp [Value.oneCell']) ?_
          have KS : Keeps (· = w.heap.size + 1) wn (wn.setRow (w.heap.size + 1) (agC (.slice Q0 d.n0 e0) (.slice Q1 d.n1 e1) (.slice Q2 d.n2 e2) (.slice Q3 d.n3 e3) d.l d.p d.t s.ph s.co s.ck s.bo s.ba s.lb (.slice Y0 s.pods.length f0) (.slice Y1 s.mnts.length f1) (.slice Y2 s.devs.length f2) (.slice Y3 s.lks.length f3) s.gd s.pr (.slice Ab st.length cb))) := keeps_setRow ..
          refine hK.out _ _ (fun o => (KS.cell (p := ⟨w.heap.size, o, none⟩) (Nat.lt_of_lt_of_le hw0 K.size) (Nat.ne_of_lt (Nat.lt_succ_self _))).trans ((Below.cell (p := ⟨w.heap.size, o, none⟩) K hw0).trans (S0 o))) (fun hS => ?_)
          clear hK K'
          refine wpAnyH_done (by kernel_rfl) ?_ _
          refine NoPanic.normal ?_
          go_wp2_with fail
          exact bodyPost_ret (v := .agg (agC (.slice Q0 d.n0 e0) (.slice Q1 d.n1 e1) (.slice Q2 d.n2 e2) (.slice Q3 d.n3 e3) d.l d.p d.t s.ph s.co s.ck s.bo s.ba s.lb (.slice Y0 s.pods.length f0) (.slice Y1 s.mnts.length f1) (.slice Y2 s.devs.length f2) (.slice Y3 s.lks.length f3) s.gd s.pr (.slice Ab st.length cb))) (results_cell_row Tryz.results208 _ _ _ _ _ _ _ rfl (setRow_heap wn _ _ _ _ _ hh) Tryz.underlying143 rfl HI.out) rfl ⟨_, rfl, ⟨_, _, _, _, _, _, _, _, _, rfl, Lp.keeps KS hh (by decide), Os.keepsT KS hh (by decide), Ob.keepsT KS hh (by decide), AP⟩, below_setRow (T0.step K).A.K (Nat.le_succ _) _⟩
        exact AllReadyH.nil
      exact AllReadyH.nil
    exact AllReadyH.nil
  exact AllReadyH.nil
end Go.Proofs.YtdkmhaghnfhajaaGreatDoor
