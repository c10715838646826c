/-
  The program's StateOk.
-/
import Derived.Test.YtlmllnbibiihhaaMZ5
import Derived.Test.YtlmllnbibiihhaaMZxUi
import Derived.Test.YtlmllnbibiihhaaMZ1
import Derived.Deep.RegionHeld3
import Derived.Deep.RegionLaw
import Derived.StillTailTactics
import Derived.Test.YtlmllnbibiihhaaMZ2
import Derived.BigQuiet
import Derived.Test.YtlmllnbibiihhaaMZ3
import Derived.Test.YtlmllnbibiihhaaMZxSf
import Derived.Test.YtlmllnbibiihhaaMZ0
import Derived.Test.YtlmllnbibiihhaaMZ4
import Derived.Deep.DeepCutAuto
import Derived.Test.YtlmllnbibiihhaaMZxVa
import Derived.Laws.Rows
/- Wc -/
set_option linter.unusedVariables false
namespace Go.Proofs.Ytlmllnbibiihhaa
open Go.RowKit

theorem rise_len {l : List Int} : ∀ {a : Int}, l.Pairwise (· < ·) → (∀ x ∈ l, a ≤ x ∧ x ≤ 7) → a ≤ 8 → (l.length : Int) ≤ 8 - a := by
  induction l with
  | nil => intro a _ _ h; simp; omega
  | cons x l ih =>
    intro a hp hx ha
    obtain ⟨h1, h2⟩ := List.pairwise_cons.1 hp
    have hx0 := hx x (by simp)
    have := ih (a := x + 1) h2 (fun y hy => ⟨h1 y hy, (hx y (by simp [hy])).2⟩) (by omega)
    simp only [List.length_cons]
    omega
end Go.Proofs.Ytlmllnbibiihhaa
/- We -/
set_option linter.unusedVariables false
namespace Go.Proofs.Ytlmllnbibiihhaa
open Go.RowKit

end Go.Proofs.Ytlmllnbibiihhaa
/- Wf -/
set_option linter.unusedVariables false
namespace Go.Proofs.Ytlmllnbibiihhaa
open Go.RowKit

theorem Two.drewN {w w1 : World} {cs os : Array Value} (h : Two w w1 cs os) (n : Nat) : Two w (w1.drewN n) cs os := ⟨h.A.drewN n, h.O.drewN n⟩
end Go.Proofs.Ytlmllnbibiihhaa
/- Wg -/
set_option linter.unusedVariables false
namespace Go.Proofs.Ytlmllnbibiihhaa
open Go.RowKit

end Go.Proofs.Ytlmllnbibiihhaa
/- Wh -/
set_option linter.unusedVariables false
namespace Go.Proofs.Ytlmllnbibiihhaa
open Go.RowKit

end Go.Proofs.Ytlmllnbibiihhaa
/- Wi -/
set_option linter.unusedVariables false
namespace Go.Proofs.Ytlmllnbibiihhaa
open Go.RowKit

theorem size_ok {d : PlanD} (h : planOkB d = true) : d.n0 ≤ 12 ∧ d.n1 ≤ 4 ∧ d.n2 ≤ 12 ∧ d.n3 ≤ 12 := by
  simp only [planOkB, sizesB, Bool.and_eq_true, decide_eq_true_eq] at h
  omega
theorem times_ok {d : PlanD} (h : planOkB d = true) : (0 ≤ d.l ∧ d.l ≤ 500) ∧ (1 ≤ d.p ∧ d.p ≤ 9) ∧ (d.p ≤ d.t ∧ d.t ≤ 30) := by
  simp only [planOkB, timesB, Bool.and_eq_true, inB_true] at h
  omega
end Go.Proofs.Ytlmllnbibiihhaa
/- Wj -/
set_option linter.unusedVariables false
namespace Go.Proofs.Ytlmllnbibiihhaa
open Go.RowKit

theorem Own.low {w w1 w2 : World} {g B : Nat} {cs : Array Value} (h : Own w w1 g cs) (hb : Below B w1 w2) (h0 : w.heap.size ≤ B) (hg : g < B) : Own w w2 g cs :=
  ⟨h.K.trans (hb.mono h0), Nat.lt_of_lt_of_le h.z hb.size, fun o => (hb.cell (p := ⟨g, o, none⟩) hg).trans (h.C o), fun o => (hb.frozen (p := ⟨g, o, none⟩) hg).trans (h.F o)⟩
theorem Two.low {w w1 w2 : World} {B : Nat} {cs os : Array Value} (h : Two w w1 cs os) (hb : Below B w1 w2) (hB : w.heap.size + 2 ≤ B) : Two w w2 cs os := ⟨h.A.low hb (by omega) (by omega), h.O.low hb (by omega) (by omega)⟩
theorem SlV.one_cell_recs (l : List RecD) : ∀ u ∈ recVs l, u.oneCell' = true := by
  intro u hu
  simp only [recVs, List.mem_map] at hu
  obtain ⟨x, -, rfl⟩ := hu
  rfl
theorem recVs_len (l : List RecD) : (recVs l).length = l.length * 3 := by simp [recVs, flat_length]
theorem recVs_append (l m : List RecD) : recVs (l ++ m) = recVs l ++ recVs m := by simp [recVs, flat_append]
/-- Records appended to a list of one's own. -/
theorem append_recs {w : World} {ops : Array Oper} {rest : List Oper} {o : Oper} {a : Act} {Q : Exit → Act → World → Prop} {B B2 m c : Nat} {v : Value} {l l2 : List RecD} {A : Option Addr} (s x : Operand) (hgd : o.guard = none)
    (ho : o.op = .call { callee := .builtin .append, args := #[s, x], argTypes := #[35, 35] }) (hs : a.eval s = v) (O : OR w B v l) (hx : a.eval x = .slice A m c) (hr : A = none → c = 0) (R : SlV w B2 3 A m (recVs l2)) (hlen : l.length + l2.length ≤ 1000000) (hB : B ≤ w.heap.size)
    (h : ∀ v' w', OR w' B v' (l ++ l2) → Below B w w' → Keeps (fun b => v.ownBlock = some b) w w' → wpList Try.prog ops Q rest (a.put o.dst v') w') : wpList Try.prog ops Q (o :: rest) a w := by
  obtain ⟨i0, hi, hz0, hz1, hz2⟩ := info_parts info_rec
  have hm : l2.length = m := by have := R.len; rw [recVs_len] at this; omega
  refine wpList_append_slv hgd s x 35 69 i0 (.agg #[.int .i64 0, .int .i64 0, .int .i64 0]) 3 24 ho Try.underlying35 hi hz0 hz1 hz2 rfl (by decide) (by decide) B v l.length (recVs l) hs O A m c (recVs l2) hx hr R (SlV.one_cell_recs l2) (by omega) hB ?_
  intro v' w' hown hg
  refine h v' w' ?_ ((Below.refl _ _).grown hg hB fun r hr => (O.lt hr).1) ⟨hg.os, hg.tape, hg.output, hg.size, fun b hb hn => hg.block b hb fun e => hn e.symm⟩
  unfold OR
  rw [List.length_append, recVs_append, hm]
  exact hown
/-- One record, just built, appended. -/
theorem append_rec {w : World} {ops : Array Oper} {rest : List Oper} {o : Oper} {a : Act} {Q : Exit → Act → World → Prop} {B g : Nat} {v : Value} {l : List RecD} (rk ra rb : Int) (s x : Operand) (hgd : o.guard = none)
    (ho : o.op = .call { callee := .builtin .append, args := #[s, x], argTypes := #[35, 35] }) (hs : a.eval s = v) (O : OR w B v l) (hg : w.heap.size = g) (hx : a.eval x = .slice (some ⟨g, 0, none⟩) 1 1) (hlen : l.length + 1 ≤ 1000000) (hB : B ≤ w.heap.size)
    (h : ∀ v' w', OR w' B v' (l ++ [⟨rk, ra, rb⟩]) → Below B w w' → Keeps (fun b => v.ownBlock = some b) w w' → wpList Try.prog ops Q rest (a.put o.dst v') w') : wpList Try.prog ops Q (o :: rest) a (w.alloc (.cells #[.int .i64 rk, .int .i64 ra, .int .i64 rb] 69)) := by
  subst hg
  have hb : Below B w (w.alloc (.cells #[.int .i64 rk, .int .i64 ra, .int .i64 rb] 69)) := (Below.refl _ _).alloc hB _
  refine append_recs (l2 := [⟨rk, ra, rb⟩]) (B2 := w.heap.size + 1) s x hgd ho hs (O.below ((Below.refl _ _).alloc (Nat.le_refl _) _)) hx (fun e => by cases e) ⟨rfl, fun hn => ⟨w.heap.size, 0, rfl, by omega, fun j hj => ?_⟩⟩ hlen (Nat.le_trans hB hb.size) ?_
  · rw [Nat.zero_add, cell_new]
    match j, hj with
    | 0, _ => rfl
    | 1, _ => rfl
    | 2, _ => rfl
  · intro v' w' O' hb' hk'
    exact h v' w' O' (hb.trans hb') ((Keeps.of_below ((Below.refl _ _).alloc (Nat.le_refl _) _)).trans hk')
theorem OR.slv {w : World} {B : Nat} {v : Value} {l : List RecD} (h : OR w B v l) : ∃ A c, v = .slice A l.length c ∧ (A = none → c = 0) ∧ SlV w w.heap.size 3 A l.length (recVs l) := open_rowR h
theorem recsOf_next {α : Type} (n : Nat) (g : Nat → Option α) (r : Nat → α → RecD) : recsOf (n + 1) g r = recsOf n g r ++ (match g n with | some x => [r n x] | none => []) := by
  cases h : g n with
  | none => rw [recsOf_none h]; simp
  | some x => rw [recsOf_some h]

end Go.Proofs.Ytlmllnbibiihhaa
/- Wk -/
set_option linter.unusedVariables false
namespace Go.Proofs.Ytlmllnbibiihhaa
open Go.RowKit

theorem list_at {w : World} {B n c : Nat} {A : Option Addr} {L : List Int} (h : w.ownsRow B 2 1 (.slice A n c) n (L.map (Value.int .i64))) {k : Nat} {x : Int} (hx : L[k]? = some x) :
    ∃ b off, A = some ⟨b, off, none⟩ ∧ b < w.heap.size ∧ w.cell? ⟨b, off + k, none⟩ = some (.int .i64 x) := by
  obtain ⟨A', c', e, -, S⟩ := open_rowR h
  injection e with e1 e2 e3
  subst e1 e3
  have hl := S.len
  have hk : k < L.length := (List.getElem?_eq_some_iff.1 hx).1
  obtain ⟨b, off, rfl, hb, hc⟩ := S.cell (i := k) (by simp at hl; omega)
  have := hc 0 (by decide)
  rw [Nat.add_zero, Nat.mul_one, Nat.add_zero] at this
  exact ⟨b, off, rfl, hb, this.trans (by simp [hx])⟩
theorem take_at {L : List Int} {k : Nat} {i : Int} (h : L[k]? = some i) : L.take (k + 1) = L.take k ++ [i] := by
  rw [List.take_add_one, h]
  rfl
end Go.Proofs.Ytlmllnbibiihhaa
/- Ul -/
set_option linter.unusedVariables false
namespace Go.Proofs.Ytlmllnbibiihhaa
open Go.RowKit

theorem IsPlan.go {w w' : World} {v : Value} {d : PlanD} (h : IsPlan w w.heap.size v d) (hb : Below w.heap.size w w') : IsPlan w' w'.heap.size v d := (h.below hb (Nat.le_refl _)).more hb.size

end Go.Proofs.Ytlmllnbibiihhaa
/- Ya -/
set_option linter.unusedVariables false
namespace Go.Proofs.Ytlmllnbibiihhaa
open Go.RowKit

set_option maxRecDepth 100000 in
set_option maxHeartbeats 2000000 in
theorem markPlan_num (d : PlanD) (g0 g1 g2 g3 : Nat) (w0 w : World) (h : NewPlan w0 w d g0 g1 g2 g3) (h0 : d.n0 ≤ 1048576) (h1 : d.n1 ≤ 1048576) (h2 : d.n2 ≤ 1048576) (h3 : d.n3 ≤ 1048576) :
    Calls Try.prog 14 #[newPlanV d g0 g1 g2 g3, .int .i64 1] w fun e w' => e = .returned (.int .i64 (1 + 4 * d.n0 + d.n1 + 2 * d.n2 + d.n3)) ∧ Keeps (fun b => g0 ≤ b ∧ b ≤ g3) w w' := by
  obtain ⟨l0, l1, l2, l3, l4, R0, R1, R2, R3⟩ := h
  obtain ⟨n0, n1, n2, n3, x0, x1, x2, x3, l, p, t⟩ := d
  dsimp only at *
  have H0 := Lib.hid h0
  have H1 := Lib.hid h1
  have H2 := Lib.hid h2
  have H3 := Lib.hid h3
  clear h0 h1 h2 h3
  have b0 : (n0 : Int) ≤ 1048576 := by have := H0.out; omega
  have b1 : (n1 : Int) ≤ 1048576 := by have := H1.out; omega
  have b2 : (n2 : Int) ≤ 1048576 := by have := H2.out; omega
  have b3 : (n3 : Int) ≤ 1048576 := by have := H3.out; omega
  go_enter Try.func14, Try.ntmps14
  go_wp2_with fail
  have X := cell_new w (planC (some ⟨g0, 0, none⟩) (some ⟨g1, 0, none⟩) (some ⟨g2, 0, none⟩) (some ⟨g3, 0, none⟩) n0 n0 n1 n1 n2 n2 n3 n3 l p t) 42
  have A1 := (Below.refl w.heap.size w).alloc (Nat.le_refl _) (.cells (planC (some ⟨g0, 0, none⟩) (some ⟨g1, 0, none⟩) (some ⟨g2, 0, none⟩) (some ⟨g3, 0, none⟩) n0 n0 n1 n1 n2 n2 n3 n3 l p t) 42)
  have K1 : Keeps (fun b => g0 ≤ b ∧ b ≤ g3) w _ := Keeps.of_below A1
  have R0 := R0.below A1 (by omega)
  have R1 := R1.below A1 (by omega)
  have R2 := R2.below A1 (by omega)
  have R3 := R3.below A1 (by omega)
  have z1 : w.heap.size < (w.alloc (.cells (planC (some ⟨g0, 0, none⟩) (some ⟨g1, 0, none⟩) (some ⟨g2, 0, none⟩) (some ⟨g3, 0, none⟩) n0 n0 n1 n1 n2 n2 n3 n3 l p t) 42)).heap.size := by simp
  refine (markPodS_any _ n0 _ g0 _ x0 _ (fun _ => rfl) R0 H0.out (by omega) (by omega)).mono ?_
  rintro e w2 ⟨rfl, k⟩
  have hC2 : ∀ o, w2.cell? ⟨w.heap.size, o, none⟩ = _ := fun o => (k.cell (p := ⟨w.heap.size, o, none⟩) z1 (by show ¬ w.heap.size = g0; omega)).trans (X o)
  have R1 := R1.keeps k (by omega) (by omega)
  have R2 := R2.keeps k (by omega) (by omega)
  have R3 := R3.keeps k (by omega) (by omega)
  have K2 := K1.trans (k.mono (T := fun b => g0 ≤ b ∧ b ≤ g3) (by rintro b rfl; omega))
  have z2 := Nat.lt_of_lt_of_le z1 k.size
  clear X A1 K1 R0 z1 k
  go_wp2_with fail
  refine (markInt64S_any _ n1 _ g1 _ x1 _ (fun _ => rfl) R1 H1.out (by omega) (by omega)).mono ?_
  rintro e w3 ⟨rfl, -, k⟩
  have hC3 : ∀ o, w3.cell? ⟨w.heap.size, o, none⟩ = _ := fun o => (k.cell (p := ⟨w.heap.size, o, none⟩) z2 (by show ¬ w.heap.size = g1; omega)).trans (hC2 o)
  have R2 := R2.keeps k (by omega) (by omega)
  have R3 := R3.keeps k (by omega) (by omega)
  have K3 := K2.trans (k.mono (T := fun b => g0 ≤ b ∧ b ≤ g3) (by rintro b rfl; omega))
  have z3 := Nat.lt_of_lt_of_le z2 k.size
  clear hC2 K2 R1 z2 k
  go_wp2_with fail
  refine (markMountS_any _ n2 _ g2 _ x2 _ (fun _ => rfl) R2 H2.out (by omega) (by omega)).mono ?_
  rintro e w4 ⟨rfl, k⟩
  have hC4 : ∀ o, w4.cell? ⟨w.heap.size, o, none⟩ = _ := fun o => (k.cell (p := ⟨w.heap.size, o, none⟩) z3 (by show ¬ w.heap.size = g2; omega)).trans (hC3 o)
  have R3 := R3.keeps k (by omega) (by omega)
  have K4 := K3.trans (k.mono (T := fun b => g0 ≤ b ∧ b ≤ g3) (by rintro b rfl; omega))
  have z4 := Nat.lt_of_lt_of_le z3 k.size
  clear hC3 K3 R2 z3 k
  go_wp2_with fail
  refine (markDeviceS_any _ n3 _ g3 _ x3 _ (fun _ => rfl) R3 H3.out (by omega) (by omega)).mono ?_
  rintro e w5 ⟨rfl, k⟩
  have K5 := K4.trans (k.mono (T := fun b => g0 ≤ b ∧ b ≤ g3) (by rintro b rfl; omega))
  clear hC4 K4 R3 z4 k
  go_wp2_with fail
  go_ret
  exact ⟨ret_int (by omega), K5⟩
theorem NewSt.rowsIn {w w' : World} {s : StD} {g0 g1 g2 g3 : Nat} (h : NewSt w w' s g0 g1 g2 g3) : RowsIn w' (newStV s g0 g1 g2 g3) s w.heap.size w'.heap.size := by
  have R := h.rows
  obtain ⟨l0, l1, l2, l3, l4, R0, R1, R2, R3⟩ := h
  exact ⟨g0, g1, g2, g3, R, ⟨l0, by omega, by omega, by omega⟩, fun _ => by omega, fun _ => by omega, fun _ => by omega, fun _ => by omega⟩
theorem BoxS.own {w W : World} {B g : Nat} {cs : Array Value} (h : BoxS W B g cs.toList) (K : Below w.heap.size w W) : Own w W g cs := ⟨K, h.lt.2, h.C, fun o => h.frozen o⟩
/-- A row in a block of the heap. -/
structure RowB (w : World) (g N : Nat) (x : Nat → Int) : Prop where
  R : RowF w g N x
  z : g < w.heap.size
theorem RowB.go {w w' : World} {g N : Nat} {x : Nat → Int} (h : RowB w g N x) (hb : Below w.heap.size w w') : RowB w' g N x := ⟨h.R.below hb h.z, Nat.lt_of_lt_of_le h.z hb.size⟩
theorem RowB.keeps {S : Nat → Prop} {w w' : World} {g N : Nat} {x : Nat → Int} (h : RowB w g N x) (k : Keeps S w w') (hn : ¬ S g) : RowB w' g N x := ⟨h.R.keeps k h.z hn, Nat.lt_of_lt_of_le h.z k.size⟩
theorem Two.keeps {S : Nat → Prop} {w w1 w2 : World} {cs os : Array Value} (h : Two w w1 cs os) (k : Keeps S w1 w2) (hS : ∀ b, S b → w.heap.size + 1 < b) : Two w w2 cs os :=
  ⟨h.A.keeps k (fun b hb => by have := hS b hb; omega) (fun hb => by have := hS _ hb; omega), h.O.keeps k (fun b hb => by have := hS b hb; omega) (fun hb => by have := hS _ hb; omega)⟩
theorem tot_half {s : StD} {m : Int} (h : (s.pods.length + s.mnts.length + s.devs.length + s.lks.length : Nat) ≤ m) : (totS s : Int) ≤ 2 * m := by unfold totS; omega
end Go.Proofs.Ytlmllnbibiihhaa
/- Vb -/
set_option linter.unusedVariables false
namespace Go.Proofs.Ytlmllnbibiihhaa
open Go.RowKit

theorem enter_besPod (x y : Value) (wr : World) : (callFunc 87 #[x, y]).run Try.prog wr = .ok (.enter 87 #[x, y]) wr := by simp [go_sem]
theorem enter_besMount (x y : Value) (wr : World) : (callFunc 88 #[x, y]).run Try.prog wr = .ok (.enter 88 #[x, y]) wr := by simp [go_sem]
theorem enter_besLock (x y : Value) (wr : World) : (callFunc 89 #[x, y]).run Try.prog wr = .ok (.enter 89 #[x, y]) wr := by simp [go_sem]

section
variable (A0 A1 A2 A3 : Option Addr) (n0 c0 n1 c1 n2 c2 n3 c3 : Nat) (l p t : Int) (E0 E1 E2 E3 : Option Addr) (m0 k0 m1 k1 m2 k2 m3 k3 : Nat) (ph : Int) (co : Bool) (ck bo ba lb gd pr : Int)
theorem all_besPods (L : List (Int × Int)) (w W : World) (K : Below w.heap.size w W) (hl : L.length = m0) (s0 : SlV w w.heap.size 2 E0 m0 (podCs L)) (b0 : m0 ≤ maxLen) :
    Calls Try.prog 79 #[.int .i64 m0, .func (.func 87) #[.agg (besC A0 A1 A2 A3 n0 c0 n1 c1 n2 c2 n3 c3 l p t E0 E1 E2 E3 m0 k0 m1 k1 m2 k2 m3 k3 ph co ck bo ba lb gd pr)] #[]] W fun e w' =>
      e = .returned (.bool (allB m0 (fun i => podOkB (podA L i)))) ∧ Below W.heap.size W w' :=
  allBelow_any _ _ m0 _ W b0 enter_besPod fun i hi wr hb =>
    besPod_any A0 A1 A2 A3 n0 c0 n1 c1 n2 c2 n3 c3 l p t E0 E1 E2 E3 m0 k0 m1 k1 m2 k2 m3 k3 ph co ck bo ba lb gd pr L i wr hl (s0.go (below_via K hb)) hi b0
theorem all_besMounts (L : List (Bool × Int)) (w W : World) (K : Below w.heap.size w W) (hl : L.length = m1) (s0 : SlV w w.heap.size 2 E1 m1 (mntCs L)) (b0 : m1 ≤ maxLen) :
    Calls Try.prog 79 #[.int .i64 m1, .func (.func 88) #[.agg (besC A0 A1 A2 A3 n0 c0 n1 c1 n2 c2 n3 c3 l p t E0 E1 E2 E3 m0 k0 m1 k1 m2 k2 m3 k3 ph co ck bo ba lb gd pr)] #[]] W fun e w' =>
      e = .returned (.bool (allB m1 (fun i => mntOkB (mntA L i)))) ∧ Below W.heap.size W w' :=
  allBelow_any _ _ m1 _ W b0 enter_besMount fun i hi wr hb =>
    besMount_any A0 A1 A2 A3 n0 c0 n1 c1 n2 c2 n3 c3 l p t E0 E1 E2 E3 m0 k0 m1 k1 m2 k2 m3 k3 ph co ck bo ba lb gd pr L i wr hl (s0.go (below_via K hb)) hi b0
theorem all_besLocks (L : List Int) (w W : World) (K : Below w.heap.size w W) (hl : L.length = m3) (s0 : SlV w w.heap.size 1 E3 m3 (lkCs L)) (b0 : m3 ≤ maxLen) :
    Calls Try.prog 79 #[.int .i64 m3, .func (.func 89) #[.agg (besC A0 A1 A2 A3 n0 c0 n1 c1 n2 c2 n3 c3 l p t E0 E1 E2 E3 m0 k0 m1 k1 m2 k2 m3 k3 ph co ck bo ba lb gd pr)] #[]] W fun e w' =>
      e = .returned (.bool (allB m3 (lkOkB L))) ∧ Below W.heap.size W w' :=
  allBelow_any _ _ m3 _ W b0 enter_besLock fun i hi wr hb =>
    besLock_any A0 A1 A2 A3 n0 c0 n1 c1 n2 c2 n3 c3 l p t E0 E1 E2 E3 m0 k0 m1 k1 m2 k2 m3 k3 ph co ck bo ba lb gd pr L i wr hl (s0.go (below_via K hb)) hi b0
end

def rightB (n0 n2 n3 : Nat) (t : Int) (s : StD) : Bool :=
  (decide (s.pods.length = n0) && decide (s.mnts.length = n2) && decide (s.devs.length = n3)) && cntB s.ph s.ck s.bo s.ba s.lb && prbB s.gd s.pr t && (s.co == decide (s.ph ≠ 0)) &&
  allB s.pods.length (fun i => podOkB (podA s.pods i)) && allB s.mnts.length (fun i => mntOkB (mntA s.mnts i)) && allB s.lks.length (lkOkB s.lks)
theorem stOkB_right (d : PlanD) (s : StD) : stOkB d s = (planOkB d && rightB d.n0 d.n2 d.n3 d.t s) := by
  rw [stOkB_parts]
  unfold rightB partsB cntB prbB
  generalize (s.co == decide (s.ph ≠ 0)) = b
  rw [Bool.eq_iff_iff]
  simp only [Bool.and_eq_true]
  constructor
  · rintro ⟨⟨⟨⟨⟨⟨⟨⟨⟨h0, h1⟩, h2⟩, h3⟩, h4⟩, h5⟩, h6⟩, h7⟩, h8⟩, ⟨⟨⟨⟨h9, ha⟩, hb⟩, hc⟩, hd⟩, he⟩
    simp [*]
  · rintro ⟨h0, ⟨⟨⟨⟨⟨⟨⟨h9, ha⟩, hb⟩, ⟨⟨⟨h1, h5⟩, h3⟩, h4⟩, h6⟩, h7, h8⟩, h2⟩, hc⟩, hd⟩, he⟩
    simp [*]

theorem wpList_load_rowG {P : Program} {ops : Array Oper} {rest : List Oper} {o : Oper} {a : Act} {w : World} {Q : Exit → Act → World → Prop} (hgd : Region.wanted o (yielded ops a.tmps) = true) (ty : TypeId) (x : Operand) (ho : o.op = .load ty x)
    (g : Nat) (hx : a.eval x = .pointer (some ⟨g, 0, none⟩)) (t : TypeId) (cs : Array Value) (fr : Nat × Nat) (d : TypeDesc) (hg : w.heap[g]? = some (.cells cs t fr))
    (hu : P.underlying ty = some d) (hd : (match d with | .struct _ | .array _ _ => true | _ => false) = true) (hi : (P.info? ty).map (·.size) = some cs.size)
    (h : wpList P ops Q rest (a.put o.dst (.agg cs)) w) : wpList P ops Q (o :: rest) a w :=
  wpList_step fun K hK => by rw [if_pos hgd]; exact wp_load_row ty x ho g hx t cs fr d hg hu hd hi (hK _ _ h)

theorem load_beside {ops : Array Oper} {rest : List Oper} {dst : Option Tmp} {ty : TypeId} {pos : String} {after : Array Edge} {gd : Option (Nat × Bool)} {a : Act} {w : World} {Q : Exit → Act → World → Prop} {g : Nat} {cs : Array Value}
    (hgd : Region.wanted (Oper.mk dst (.load 117 (.tmp 1)) ty pos after gd) (yielded ops a.tmps) = true) (hx : a.eval (.tmp 1) = .pointer (some ⟨g, 0, none⟩)) (hg : w.heap[g]? = some (.cells cs 117))
    (hi : (Try.prog.info? 117).map (·.size) = some cs.size)
    (h : wpList Try.prog ops Q rest (a.put dst (.agg cs)) w) : wpList Try.prog ops Q (Oper.mk dst (.load 117 (.tmp 1)) ty pos after gd :: rest) a w :=
  wpList_load_rowG hgd 117 (.tmp 1) rfl g hx _ cs _ _ hg Try.underlying117 rfl hi h

set_option maxHeartbeats 4000000 in
set_option maxRecDepth 20000 in
theorem right_run (cs : Array Value) (ph ck bo ba lb gd pr t : Int) (co : Bool) (E0 E1 E3 : Option Addr) (m0 k0 m1 k1 m3 k3 : Nat) (w : World) (C1 C2 C3 C4 C5 C6 : Bool) (hsz : cs.size = 19)
    (e0 : cs[0]? = some (.int .i64 ph)) (e1 : cs[1]? = some (.int .i64 ck)) (e2 : cs[2]? = some (.int .i64 bo)) (e3 : cs[3]? = some (.int .i64 ba)) (e4 : cs[4]? = some (.int .i64 lb)) (e5 : cs[5]? = some (.int .i64 gd)) (e6 : cs[6]? = some (.int .i64 pr))
    (e13 : cs[13]? = some (.int .i64 t)) (e14 : cs[14]? = some (.bool co)) (e15 : cs[15]? = some (.slice E0 m0 k0)) (e16 : cs[16]? = some (.slice E1 m1 k1)) (e18 : cs[18]? = some (.slice E3 m3 k3))
    (h1 : ∀ W, Below w.heap.size w W → Calls Try.prog 84 #[.agg cs] W fun e w' => e = .returned (.bool C1) ∧ Below W.heap.size W w')
    (h2 : ∀ W, Below w.heap.size w W → Calls Try.prog 85 #[cntV ph ck bo ba lb gd pr] W fun e w' => e = .returned (.bool C2) ∧ Below W.heap.size W w')
    (h3 : ∀ W, Below w.heap.size w W → Calls Try.prog 86 #[cntV ph ck bo ba lb gd pr, .int .i64 t] W fun e w' => e = .returned (.bool C3) ∧ Below W.heap.size W w')
    (h4 : ∀ W, Below w.heap.size w W → Calls Try.prog 79 #[.int .i64 m0, .func (.func 87) #[.agg cs] #[]] W fun e w' => e = .returned (.bool C4) ∧ Below W.heap.size W w')
    (h5 : ∀ W, Below w.heap.size w W → Calls Try.prog 79 #[.int .i64 m1, .func (.func 88) #[.agg cs] #[]] W fun e w' => e = .returned (.bool C5) ∧ Below W.heap.size W w')
    (h6 : ∀ W, Below w.heap.size w W → Calls Try.prog 79 #[.int .i64 m3, .func (.func 89) #[.agg cs] #[]] W fun e w' => e = .returned (.bool C6) ∧ Below W.heap.size W w') :
    Calls Try.prog 67 #[.agg cs] w fun e w' => e = .returned (.bool (C1 && C2 && C3 && (co == decide (ph ≠ 0)) && C4 && C5 && C6)) ∧ Below w.heap.size w w' := by
  have hi : (Try.prog.info? 117).map (·.size) = some cs.size := by rw [hsz]; kernel_rfl
  have H1 := Lib.hid h1
  have H2 := Lib.hid h2
  have H3 := Lib.hid h3
  have H4 := Lib.hid h4
  have H5 := Lib.hid h5
  have H6 := Lib.hid h6
  have HI := Lib.hid hi
  clear h1 h2 h3 h4 h5 h6 hi
  have G0 := Lib.hid e0
  have G1 := Lib.hid e1
  have G2 := Lib.hid e2
  have G3 := Lib.hid e3
  have G4 := Lib.hid e4
  have G5 := Lib.hid e5
  have G6 := Lib.hid e6
  have G13 := Lib.hid e13
  have G14 := Lib.hid e14
  have G15 := Lib.hid e15
  have G16 := Lib.hid e16
  have G18 := Lib.hid e18
  clear e0 e1 e2 e3 e4 e5 e6 e13 e14 e15 e16 e18
  have X0 := Own.box w cs 117
  have hH := heap_alloc_new w (.cells cs 117)
  go_enter Try.func67, Try.ntmps67
  go_upto_region 1 with fail
  generalize w.alloc (.cells cs 117) = W at X0 hH ⊢
  go_wp2_with ((with_reducible refine load_beside (g := w.heap.size) (cs := cs) ?_ ?_ hH HI.out ?_); rfl; rfl)
  refine (H1.out _ X0.K).mono ?_
  rintro e w1 ⟨rfl, hb⟩
  replace hH := (hb.block _ X0.z).trans hH
  have X1 := X0.step hb
  have q0 := (X1.C 0).trans G0.out
  have q1 := (X1.C 1).trans G1.out
  have q2 := (X1.C 2).trans G2.out
  have q3 := (X1.C 3).trans G3.out
  have q4 := (X1.C 4).trans G4.out
  have q5 := (X1.C 5).trans G5.out
  have q6 := (X1.C 6).trans G6.out
  clear hb X0
  cases C1
  · go_wp2
    all_goals (go_ret; exact ⟨ret_bool (by simp), X1.K⟩)
  · go_wp2_with fail
    clear q0 q1 q2 q3 q4 q5 q6
    refine (H2.out _ X1.K).mono ?_
    rintro e w2 ⟨rfl, hb⟩
    replace hH := (hb.block _ X1.z).trans hH
    have X2 := X1.step hb
    have q0 := (X2.C 0).trans G0.out
    have q1 := (X2.C 1).trans G1.out
    have q2 := (X2.C 2).trans G2.out
    have q3 := (X2.C 3).trans G3.out
    have q4 := (X2.C 4).trans G4.out
    have q5 := (X2.C 5).trans G5.out
    have q6 := (X2.C 6).trans G6.out
    have q13 := (X2.C 13).trans G13.out
    clear hb X1
    cases C2
    · go_wp2
      all_goals (go_ret; exact ⟨ret_bool (by simp), X2.K⟩)
    · go_wp2_with fail
      clear q0 q1 q2 q3 q4 q5 q6 q13
      refine (H3.out _ X2.K).mono ?_
      rintro e w3 ⟨rfl, hb⟩
      replace hH := (hb.block _ X2.z).trans hH
      have X3 := X2.step hb
      have q0 := (X3.C 0).trans G0.out
      have q14 := (X3.C 14).trans G14.out
      have q15 := (X3.C 15).trans G15.out
      clear hb X2
      cases C3
      · go_wp2
        all_goals (go_ret; exact ⟨ret_bool (by simp), X3.K⟩)
      · by_cases hph : ph = 0
        · subst hph
          cases co
          · go_wp2_with ((with_reducible refine load_beside (g := w.heap.size) (cs := cs) ?_ ?_ hH HI.out ?_); rfl; rfl)
            refine (H4.out _ X3.K).mono ?_
            rintro e w4 ⟨rfl, hb⟩
            replace hH := (hb.block _ X3.z).trans hH
            have X4 := X3.step hb
            have q16 := (X4.C 16).trans G16.out
            clear hb X3
            cases C4
            · go_wp2
              all_goals (go_ret; exact ⟨ret_bool (by simp), X4.K⟩)
            · go_wp2_with ((with_reducible refine load_beside (g := w.heap.size) (cs := cs) ?_ ?_ hH HI.out ?_); rfl; rfl)
              refine (H5.out _ X4.K).mono ?_
              rintro e w5 ⟨rfl, hb⟩
              replace hH := (hb.block _ X4.z).trans hH
              have X5 := X4.step hb
              have q18 := (X5.C 18).trans G18.out
              clear hb X4
              cases C5
              · go_wp2
                all_goals (go_ret; exact ⟨ret_bool (by simp), X5.K⟩)
              · go_wp2_with ((with_reducible refine load_beside (g := w.heap.size) (cs := cs) ?_ ?_ hH HI.out ?_); rfl; rfl)
                refine (H6.out _ X5.K).mono ?_
                rintro e w6 ⟨rfl, hb⟩
                replace hH := (hb.block _ X5.z).trans hH
                have X6 := X5.step hb
                clear hb X5
                go_wp2
                all_goals (go_ret; exact ⟨ret_bool (by simp [*]), X6.K⟩)
          · go_wp2
            all_goals (go_ret; exact ⟨ret_bool (by simp), X3.K⟩)
        · have hne : (ph != 0) = true := by simpa using hph
          cases co
          · go_wp2
            all_goals (go_ret; exact ⟨ret_bool (by simp [hph]), X3.K⟩)
          · go_wp2_with ((with_reducible refine load_beside (g := w.heap.size) (cs := cs) ?_ ?_ hH HI.out ?_); rfl; rfl)
            refine (H4.out _ X3.K).mono ?_
            rintro e w4 ⟨rfl, hb⟩
            replace hH := (hb.block _ X3.z).trans hH
            have X4 := X3.step hb
            have q16 := (X4.C 16).trans G16.out
            clear hb X3
            cases C4
            · go_wp2
              all_goals (go_ret; exact ⟨ret_bool (by simp), X4.K⟩)
            · go_wp2_with ((with_reducible refine load_beside (g := w.heap.size) (cs := cs) ?_ ?_ hH HI.out ?_); rfl; rfl)
              refine (H5.out _ X4.K).mono ?_
              rintro e w5 ⟨rfl, hb⟩
              replace hH := (hb.block _ X4.z).trans hH
              have X5 := X4.step hb
              have q18 := (X5.C 18).trans G18.out
              clear hb X4
              cases C5
              · go_wp2
                all_goals (go_ret; exact ⟨ret_bool (by simp), X5.K⟩)
              · go_wp2_with ((with_reducible refine load_beside (g := w.heap.size) (cs := cs) ?_ ?_ hH HI.out ?_); rfl; rfl)
                refine (H6.out _ X5.K).mono ?_
                rintro e w6 ⟨rfl, hb⟩
                replace hH := (hb.block _ X5.z).trans hH
                have X6 := X5.step hb
                clear hb X5
                go_wp2
                all_goals (go_ret; exact ⟨ret_bool (by simp [*]), X6.K⟩)
end Go.Proofs.Ytlmllnbibiihhaa
