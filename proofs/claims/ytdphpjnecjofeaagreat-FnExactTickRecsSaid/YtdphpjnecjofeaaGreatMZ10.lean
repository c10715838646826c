/-
  Chapter 9: MayFree, MayGive, the model's and the program's.
-/
import Derived.Test.YtdphpjnecjofeaaGreatMZ9
import Derived.Laws.Rows
import Derived.Test.YtdphpjnecjofeaaGreatMZ0
import Derived.Test.YtdphpjnecjofeaaGreatMZ7
import Derived.Test.YtdphpjnecjofeaaGreatMZ2
import Derived.Deep.DeepCutAuto
/- Vb -/
set_option linter.unusedVariables false
namespace Go.Proofs.YtdphpjnecjofeaaGreat
open Go.RowKit

theorem enter_besPod (x y : Value) (wr : World) : (callFunc 100 #[x, y]).run Tryz.prog wr = .ok (.enter 100 #[x, y]) wr := by simp [go_sem]
theorem enter_besMount (x y : Value) (wr : World) : (callFunc 101 #[x, y]).run Tryz.prog wr = .ok (.enter 101 #[x, y]) wr := by simp [go_sem]
theorem enter_besLock (x y : Value) (wr : World) : (callFunc 102 #[x, y]).run Tryz.prog wr = .ok (.enter 102 #[x, y]) wr := by simp [go_sem]

section
variable (A0 A1 A2 A3 : Option Addr) (n0 c0 n1 c1 n2 c2 n3 c3 : Nat) (l p t : Int) (E0 E1 E2 E3 : Option Addr) (m0 k0 m1 k1 m2 k2 m3 k3 : Nat) (ph : Int) (co : Bool) (ck bo ba lb gd pr : Int)
theorem all_besPods (L : List (Int × Int)) (w W : World) (K : Below w.heap.size w W) (hl : L.length = m0) (s0 : SlV w w.heap.size 2 E0 m0 (podCs L)) (b0 : m0 ≤ maxLen) :
    Calls Tryz.prog 91 #[.int .i64 m0, .func (.func 100) #[.agg (besC A0 A1 A2 A3 n0 c0 n1 c1 n2 c2 n3 c3 l p t E0 E1 E2 E3 m0 k0 m1 k1 m2 k2 m3 k3 ph co ck bo ba lb gd pr)] #[]] W fun e w' =>
      e = .returned (.bool (allB m0 (fun i => podOkB (podA L i)))) ∧ Below W.heap.size W w' :=
  allBelow_any _ _ m0 _ W b0 enter_besPod fun i hi wr hb =>
    besPod_any A0 A1 A2 A3 n0 c0 n1 c1 n2 c2 n3 c3 l p t E0 E1 E2 E3 m0 k0 m1 k1 m2 k2 m3 k3 ph co ck bo ba lb gd pr L i wr hl (s0.go (below_via K hb)) hi b0
theorem all_besMounts (L : List (Bool × Int)) (w W : World) (K : Below w.heap.size w W) (hl : L.length = m1) (s0 : SlV w w.heap.size 2 E1 m1 (mntCs L)) (b0 : m1 ≤ maxLen) :
    Calls Tryz.prog 91 #[.int .i64 m1, .func (.func 101) #[.agg (besC A0 A1 A2 A3 n0 c0 n1 c1 n2 c2 n3 c3 l p t E0 E1 E2 E3 m0 k0 m1 k1 m2 k2 m3 k3 ph co ck bo ba lb gd pr)] #[]] W fun e w' =>
      e = .returned (.bool (allB m1 (fun i => mntOkB (mntA L i)))) ∧ Below W.heap.size W w' :=
  allBelow_any _ _ m1 _ W b0 enter_besMount fun i hi wr hb =>
    besMount_any A0 A1 A2 A3 n0 c0 n1 c1 n2 c2 n3 c3 l p t E0 E1 E2 E3 m0 k0 m1 k1 m2 k2 m3 k3 ph co ck bo ba lb gd pr L i wr hl (s0.go (below_via K hb)) hi b0
theorem all_besLocks (L : List Int) (w W : World) (K : Below w.heap.size w W) (hl : L.length = m3) (s0 : SlV w w.heap.size 1 E3 m3 (lkCs L)) (b0 : m3 ≤ maxLen) :
    Calls Tryz.prog 91 #[.int .i64 m3, .func (.func 102) #[.agg (besC A0 A1 A2 A3 n0 c0 n1 c1 n2 c2 n3 c3 l p t E0 E1 E2 E3 m0 k0 m1 k1 m2 k2 m3 k3 ph co ck bo ba lb gd pr)] #[]] W fun e w' =>
      e = .returned (.bool (allB m3 (lkOkB L))) ∧ Below W.heap.size W w' :=
  allBelow_any _ _ m3 _ W b0 enter_besLock fun i hi wr hb =>
    besLock_any A0 A1 A2 A3 n0 c0 n1 c1 n2 c2 n3 c3 l p t E0 E1 E2 E3 m0 k0 m1 k1 m2 k2 m3 k3 ph co ck bo ba lb gd pr L i wr hl (s0.go (below_via K hb)) hi b0
end

def rightB (n0 n2 n3 : Nat) (t : Int) (s : StD) : Bool :=
  (decide (s.pods.length = n0) && decide (s.mnts.length = n2) && decide (s.devs.length = n3)) && cntB s.ph s.ck s.bo s.ba s.lb && prbB s.gd s.pr t && (s.co == decide (s.ph ≠ 0)) &&
  allB s.pods.length (fun i => podOkB (podA s.pods i)) && allB s.mnts.length (fun i => mntOkB (mntA s.mnts i)) && allB s.lks.length (lkOkB s.lks)
theorem stOkB_right (d : PlanD) (s : StD) : stOkB d s = (planOkB d && rightB d.n0 d.n2 d.n3 d.t s) := by
  rw [stOkB_parts]
  unfold rightB partsB cntB prbB
  generalize (s.co == decide (s.ph ≠ 0)) = b
  rw [Bool.eq_iff_iff]
  simp only [Bool.and_eq_true]
  constructor
  · rintro ⟨⟨⟨⟨⟨⟨⟨⟨⟨h0, h1⟩, h2⟩, h3⟩, h4⟩, h5⟩, h6⟩, h7⟩, h8⟩, ⟨⟨⟨⟨h9, ha⟩, hb⟩, hc⟩, hd⟩, he⟩
    simp [*]
  · rintro ⟨h0, ⟨⟨⟨⟨⟨⟨⟨h9, ha⟩, hb⟩, ⟨⟨⟨h1, h5⟩, h3⟩, h4⟩, h6⟩, h7, h8⟩, h2⟩, hc⟩, hd⟩, he⟩
    simp [*]

theorem wpList_load_rowG {P : Program} {ops : Array Oper} {rest : List Oper} {o : Oper} {a : Act} {w : World} {Q : Exit → Act → World → Prop} (hgd : Region.wanted o (yielded ops a.tmps) = true) (ty : TypeId) (x : Operand) (ho : o.op = .load ty x)
    (g : Nat) (hx : a.eval x = .pointer (some ⟨g, 0, none⟩)) (t : TypeId) (cs : Array Value) (fr : Nat × Nat) (d : TypeDesc) (hg : w.heap[g]? = some (.cells cs t fr))
    (hu : P.underlying ty = some d) (hd : (match d with | .struct _ | .array _ _ => true | _ => false) = true) (hi : (P.info? ty).map (·.size) = some cs.size)
    (h : wpList P ops Q rest (a.put o.dst (.agg cs)) w) : wpList P ops Q (o :: rest) a w :=
  wpList_step fun K hK => by rw [if_pos hgd]; exact wp_load_row ty x ho g hx t cs fr d hg hu hd hi (hK _ _ h)

theorem load_beside {ops : Array Oper} {rest : List Oper} {dst : Option Tmp} {ty : TypeId} {pos : String} {after : Array Edge} {gd : Option (Nat × Bool)} {a : Act} {w : World} {Q : Exit → Act → World → Prop} {g : Nat} {cs : Array Value}
    (hgd : Region.wanted (Oper.mk dst (.load 119 (.tmp 1)) ty pos after gd) (yielded ops a.tmps) = true) (hx : a.eval (.tmp 1) = .pointer (some ⟨g, 0, none⟩)) (hg : w.heap[g]? = some (.cells cs 119))
    (hi : (Tryz.prog.info? 119).map (·.size) = some cs.size)
    (h : wpList Tryz.prog ops Q rest (a.put dst (.agg cs)) w) : wpList Tryz.prog ops Q (Oper.mk dst (.load 119 (.tmp 1)) ty pos after gd :: rest) a w :=
  wpList_load_rowG hgd 119 (.tmp 1) rfl g hx _ cs _ _ hg Tryz.underlying119 rfl hi h

set_option maxHeartbeats 4000000 in
set_option maxRecDepth 20000 in
theorem right_run (cs : Array Value) (ph ck bo ba lb gd pr t : Int) (co : Bool) (E0 E1 E3 : Option Addr) (m0 k0 m1 k1 m3 k3 : Nat) (w : World) (C1 C2 C3 C4 C5 C6 : Bool) (hsz : cs.size = 19)
    (e0 : cs[0]? = some (.int .i64 ph)) (e1 : cs[1]? = some (.int .i64 ck)) (e2 : cs[2]? = some (.int .i64 bo)) (e3 : cs[3]? = some (.int .i64 ba)) (e4 : cs[4]? = some (.int .i64 lb)) (e5 : cs[5]? = some (.int .i64 gd)) (e6 : cs[6]? = some (.int .i64 pr))
    (e13 : cs[13]? = some (.int .i64 t)) (e14 : cs[14]? = some (.bool co)) (e15 : cs[15]? = some (.slice E0 m0 k0)) (e16 : cs[16]? = some (.slice E1 m1 k1)) (e18 : cs[18]? = some (.slice E3 m3 k3))
    (h1 : ∀ W, Below w.heap.size w W → Calls Tryz.prog 97 #[.agg cs] W fun e w' => e = .returned (.bool C1) ∧ Below W.heap.size W w')
    (h2 : ∀ W, Below w.heap.size w W → Calls Tryz.prog 98 #[cntV ph ck bo ba lb gd pr] W fun e w' => e = .returned (.bool C2) ∧ Below W.heap.size W w')
    (h3 : ∀ W, Below w.heap.size w W → Calls Tryz.prog 99 #[cntV ph ck bo ba lb gd pr, .int .i64 t] W fun e w' => e = .returned (.bool C3) ∧ Below W.heap.size W w')
    (h4 : ∀ W, Below w.heap.size w W → Calls Tryz.prog 91 #[.int .i64 m0, .func (.func 100) #[.agg cs] #[]] W fun e w' => e = .returned (.bool C4) ∧ Below W.heap.size W w')
    (h5 : ∀ W, Below w.heap.size w W → Calls Tryz.prog 91 #[.int .i64 m1, .func (.func 101) #[.agg cs] #[]] W fun e w' => e = .returned (.bool C5) ∧ Below W.heap.size W w')
    (h6 : ∀ W, Below w.heap.size w W → Calls Tryz.prog 91 #[.int .i64 m3, .func (.func 102) #[.agg cs] #[]] W fun e w' => e = .returned (.bool C6) ∧ Below W.heap.size W w') :
    Calls Tryz.prog 66 #[.agg cs] w fun e w' => e = .returned (.bool (C1 && C2 && C3 && (co == decide (ph ≠ 0)) && C4 && C5 && C6)) ∧ Below w.heap.size w w' := by
  have hi : (Tryz.prog.info? 119).map (·.size) = some cs.size := by rw [hsz]; kernel_rfl
  have H1 := Lib.hid h1
  have H2 := Lib.hid h2
  have H3 := Lib.hid h3
  have H4 := Lib.hid h4
  have H5 := Lib.hid h5
  have H6 := Lib.hid h6
  have HI := Lib.hid hi
  clear h1 h2 h3 h4 h5 h6 hi
  have G0 := Lib.hid e0
  have G1 := Lib.hid e1
  have G2 := Lib.hid e2
  have G3 := Lib.hid e3
  have G4 := Lib.hid e4
  have G5 := Lib.hid e5
  have G6 := Lib.hid e6
  have G13 := Lib.hid e13
  have G14 := Lib.hid e14
  have G15 := Lib.hid e15
  have G16 := Lib.hid e16
  have G18 := Lib.hid e18
  clear e0 e1 e2 e3 e4 e5 e6 e13 e14 e15 e16 e18
  have X0 := Own.box w cs 119
  have hH := heap_alloc_new w (.cells cs 119)
  go_enter Tryz.func66, Tryz.ntmps66
  go_upto_region 1 with fail
  generalize w.alloc (.cells cs 119) = W at X0 hH ⊢
  go_wp2_with ((with_reducible refine load_beside (g := w.heap.size) (cs := cs) ?_ ?_ hH HI.out ?_); rfl; rfl)
  refine (H1.out _ X0.K).mono ?_
  rintro e w1 ⟨rfl, hb⟩
  replace hH := (hb.block _ X0.z).trans hH
  have X1 := X0.step hb
  have q0 := (X1.C 0).trans G0.out
  have q1 := (X1.C 1).trans G1.out
  have q2 := (X1.C 2).trans G2.out
  have q3 := (X1.C 3).trans G3.out
  have q4 := (X1.C 4).trans G4.out
  have q5 := (X1.C 5).trans G5.out
  have q6 := (X1.C 6).trans G6.out
  clear hb X0
  cases C1
  · go_wp2
    all_goals (go_ret; exact ⟨ret_bool (by simp), X1.K⟩)
  · go_wp2_with fail
    clear q0 q1 q2 q3 q4 q5 q6
    refine (H2.out _ X1.K).mono ?_
    rintro e w2 ⟨rfl, hb⟩
    replace hH := (hb.block _ X1.z).trans hH
    have X2 := X1.step hb
    have q0 := (X2.C 0).trans G0.out
    have q1 := (X2.C 1).trans G1.out
    have q2 := (X2.C 2).trans G2.out
    have q3 := (X2.C 3).trans G3.out
    have q4 := (X2.C 4).trans G4.out
    have q5 := (X2.C 5).trans G5.out
    have q6 := (X2.C 6).trans G6.out
    have q13 := (X2.C 13).trans G13.out
    clear hb X1
    cases C2
    · go_wp2
      all_goals (go_ret; exact ⟨ret_bool (by simp), X2.K⟩)
    · go_wp2_with fail
      clear q0 q1 q2 q3 q4 q5 q6 q13
      refine (H3.out _ X2.K).mono ?_
      rintro e w3 ⟨rfl, hb⟩
      replace hH := (hb.block _ X2.z).trans hH
      have X3 := X2.step hb
      have q0 := (X3.C 0).trans G0.out
      have q14 := (X3.C 14).trans G14.out
      have q15 := (X3.C 15).trans G15.out
      clear hb X2
      cases C3
      · go_wp2
        all_goals (go_ret; exact ⟨ret_bool (by simp), X3.K⟩)
      · by_cases hph : ph = 0
        · subst hph
          cases co
          · go_wp2_with ((with_reducible refine load_beside (g := w.heap.size) (cs := cs) ?_ ?_ hH HI.out ?_); rfl; rfl)
            refine (H4.out _ X3.K).mono ?_
            rintro e w4 ⟨rfl, hb⟩
            replace hH := (hb.block _ X3.z).trans hH
            have X4 := X3.step hb
            have q16 := (X4.C 16).trans G16.out
            clear hb X3
            cases C4
            · go_wp2
              all_goals (go_ret; exact ⟨ret_bool (by simp), X4.K⟩)
            · go_wp2_with ((with_reducible refine load_beside (g := w.heap.size) (cs := cs) ?_ ?_ hH HI.out ?_); rfl; rfl)
              refine (H5.out _ X4.K).mono ?_
              rintro e w5 ⟨rfl, hb⟩
              replace hH := (hb.block _ X4.z).trans hH
              have X5 := X4.step hb
              have q18 := (X5.C 18).trans G18.out
              clear hb X4
              cases C5
              · go_wp2
                all_goals (go_ret; exact ⟨ret_bool (by simp), X5.K⟩)
              · go_wp2_with ((with_reducible refine load_beside (g := w.heap.size) (cs := cs) ?_ ?_ hH HI.out ?_); rfl; rfl)
                refine (H6.out _ X5.K).mono ?_
                rintro e w6 ⟨rfl, hb⟩
                replace hH := (hb.block _ X5.z).trans hH
                have X6 := X5.step hb
                clear hb X5
                go_wp2
                all_goals (go_ret; exact ⟨ret_bool (by simp [*]), X6.K⟩)
          · go_wp2
            all_goals (go_ret; exact ⟨ret_bool (by simp), X3.K⟩)
        · have hne : (ph != 0) = true := by simpa using hph
          cases co
          · go_wp2
            all_goals (go_ret; exact ⟨ret_bool (by simp [hph]), X3.K⟩)
          · go_wp2_with ((with_reducible refine load_beside (g := w.heap.size) (cs := cs) ?_ ?_ hH HI.out ?_); rfl; rfl)
            refine (H4.out _ X3.K).mono ?_
            rintro e w4 ⟨rfl, hb⟩
            replace hH := (hb.block _ X3.z).trans hH
            have X4 := X3.step hb
            have q16 := (X4.C 16).trans G16.out
            clear hb X3
            cases C4
            · go_wp2
              all_goals (go_ret; exact ⟨ret_bool (by simp), X4.K⟩)
            · go_wp2_with ((with_reducible refine load_beside (g := w.heap.size) (cs := cs) ?_ ?_ hH HI.out ?_); rfl; rfl)
              refine (H5.out _ X4.K).mono ?_
              rintro e w5 ⟨rfl, hb⟩
              replace hH := (hb.block _ X4.z).trans hH
              have X5 := X4.step hb
              have q18 := (X5.C 18).trans G18.out
              clear hb X4
              cases C5
              · go_wp2
                all_goals (go_ret; exact ⟨ret_bool (by simp), X5.K⟩)
              · go_wp2_with ((with_reducible refine load_beside (g := w.heap.size) (cs := cs) ?_ ?_ hH HI.out ?_); rfl; rfl)
                refine (H6.out _ X5.K).mono ?_
                rintro e w6 ⟨rfl, hb⟩
                replace hH := (hb.block _ X5.z).trans hH
                have X6 := X5.step hb
                clear hb X5
                go_wp2
                all_goals (go_ret; exact ⟨ret_bool (by simp [*]), X6.K⟩)
end Go.Proofs.YtdphpjnecjofeaaGreat
/- VbS -/
set_option linter.unusedVariables false
namespace Go.Proofs.YtdphpjnecjofeaaGreat
open Go.RowKit

set_option maxHeartbeats 2000000 in
theorem implStateOk_any (pv sv : Value) (d : PlanD) (s : StD) (w : World) (hp : IsPlan w w.heap.size pv d) (h : IsSt w w.heap.size sv s) :
    Calls Tryz.prog 34 #[pv, sv] w fun e w' => e = .returned (.bool (stOkB d s)) ∧ Below w.heap.size w w' := by
  have HP := Lib.hid hp
  obtain ⟨⟨A0, A1, A2, A3, c0, c1, c2, c3, rfl, -, -, -, -⟩, b0, b1, b2, b3⟩ := hp
  obtain ⟨⟨E0, E1, E2, E3, k0, k1, k2, k3, rfl, s0, s1, s2, s3⟩, d0, d1, d2, d3⟩ := h
  have HANS := Lib.hid (stOkB_right d s)
  have HR : Hid (∀ W, Below w.heap.size w W → Calls Tryz.prog 66 #[.agg (besC A0 A1 A2 A3 d.n0 c0 d.n1 c1 d.n2 c2 d.n3 c3 d.l d.p d.t E0 E1 E2 E3 s.pods.length k0 s.mnts.length k1 s.devs.length k2 s.lks.length k3 s.ph s.co s.ck s.bo s.ba s.lb s.gd s.pr)] W fun e w' => e = .returned (.bool (rightB d.n0 d.n2 d.n3 d.t s)) ∧ Below W.heap.size W w') := by
    refine Lib.hid fun W K => ?_
    refine (right_run (besC A0 A1 A2 A3 d.n0 c0 d.n1 c1 d.n2 c2 d.n3 c3 d.l d.p d.t E0 E1 E2 E3 s.pods.length k0 s.mnts.length k1 s.devs.length k2 s.lks.length k3 s.ph s.co s.ck s.bo s.ba s.lb s.gd s.pr) s.ph s.ck s.bo s.ba s.lb s.gd s.pr d.t s.co E0 E1 E3 s.pods.length k0 s.mnts.length k1 s.lks.length k3 W
      _ _ _ _ _ _ rfl rfl rfl rfl rfl rfl rfl rfl rfl rfl rfl rfl rfl
      (fun W' _ => countsRight_any A0 A1 A2 A3 d.n0 c0 d.n1 c1 d.n2 c2 d.n3 c3 d.l d.p d.t E0 E1 E2 E3 s.pods.length k0 s.mnts.length k1 s.devs.length k2 s.lks.length k3 s.ph s.co s.ck s.bo s.ba s.lb s.gd s.pr W' b0 b2 b3 d0 d1 d2)
      (fun W' _ => numbersRight_any s.ph s.ck s.bo s.ba s.lb s.gd s.pr W')
      (fun W' _ => probesRight_any s.ph s.ck s.bo s.ba s.lb s.gd s.pr d.t W')
      (fun W' K' => all_besPods A0 A1 A2 A3 d.n0 c0 d.n1 c1 d.n2 c2 d.n3 c3 d.l d.p d.t E0 E1 E2 E3 s.pods.length k0 s.mnts.length k1 s.devs.length k2 s.lks.length k3 s.ph s.co s.ck s.bo s.ba s.lb s.gd s.pr s.pods w W' (K.trans (K'.mono K.size)) rfl s0 d0)
      (fun W' K' => all_besMounts A0 A1 A2 A3 d.n0 c0 d.n1 c1 d.n2 c2 d.n3 c3 d.l d.p d.t E0 E1 E2 E3 s.pods.length k0 s.mnts.length k1 s.devs.length k2 s.lks.length k3 s.ph s.co s.ck s.bo s.ba s.lb s.gd s.pr s.mnts w W' (K.trans (K'.mono K.size)) rfl s1 d1)
      (fun W' K' => all_besLocks A0 A1 A2 A3 d.n0 c0 d.n1 c1 d.n2 c2 d.n3 c3 d.l d.p d.t E0 E1 E2 E3 s.pods.length k0 s.mnts.length k1 s.devs.length k2 s.lks.length k3 s.ph s.co s.ck s.bo s.ba s.lb s.gd s.pr s.lks w W' (K.trans (K'.mono K.size)) rfl s3 d3)).mono ?_
    rintro e w' ⟨rfl, hb⟩
    exact ⟨rfl, hb⟩
  clear s0 s1 s2 s3 b0 b1 b2 b3 d0 d1 d2 d3
  have T0 := Two.start w (planC A0 A1 A2 A3 d.n0 c0 d.n1 c1 d.n2 c2 d.n3 c3 d.l d.p d.t) (stC E0 E1 E2 E3 s.pods.length k0 s.mnts.length k1 s.devs.length k2 s.lks.length k3 s.ph s.co s.ck s.bo s.ba s.lb s.gd s.pr) 42 47
  generalize stOkB d s = ans at *
  generalize rightB d.n0 d.n2 d.n3 d.t s = rt at *
  go_enter Tryz.func34, Tryz.ntmps34
  go_wp2_with fail
  refine (planOk_any _ d _ ((HP.out.below T0.A.K (Nat.le_refl _)).more T0.A.K.size)).mono ?_
  rintro e w1 ⟨rfl, hb1⟩
  have X := T0.step hb1
  have hC := X.A.C
  have hD := X.O.C
  clear T0 hb1
  cases h0 : planOkB d
  · have H0 := Lib.hid h0
    clear h0
    go_wp2_with fail
    go_ret
    exact ⟨ret_bool (by rw [HANS.out, H0.out]; simp), X.A.K⟩
  · have H0 := Lib.hid h0
    clear h0
    go_wp2_with fail
    refine (besidePlan_any A0 A1 A2 A3 d.n0 c0 d.n1 c1 d.n2 c2 d.n3 c3 d.l d.p d.t E0 E1 E2 E3 s.pods.length k0 s.mnts.length k1 s.devs.length k2 s.lks.length k3 s.ph s.co s.ck s.bo s.ba s.lb s.gd s.pr _).mono ?_
    rintro e w2 ⟨rfl, hb2⟩
    have X2 := X.step hb2
    clear hb2 X hC hD
    go_wp2_with fail
    refine (HR.out _ X2.A.K).mono ?_
    rintro e w3 ⟨rfl, hb3⟩
    have X3 := X2.step hb3
    clear hb3 X2
    go_wp2
    go_ret
    exact ⟨ret_bool (by rw [HANS.out, H0.out]; simp), X3.A.K⟩
end Go.Proofs.YtdphpjnecjofeaaGreat
/- Ha -/
set_option linter.unusedVariables false
namespace Go.Proofs.YtdphpjnecjofeaaGreat
open Go.RowKit

def mayFreeB (d : PlanD) (s : StD) (a : Int) : Bool := inB a 0 (d.n2 - 1) && freeB d s a.toNat
def mayGiveB (d : PlanD) (s : StD) (a : Int) : Bool := inB a 0 (d.n3 - 1) && giveB d s a.toNat

set_option maxRecDepth 100000 in
set_option maxHeartbeats 4000000 in
theorem implMayGive_any (pv sv : Value) (d : PlanD) (s : StD) (a : Int) (w : World) (hp : IsPlan w w.heap.size pv d) (hs : IsSt w w.heap.size sv s) :
    Calls Tryz.prog 112 #[pv, sv, .int .i64 a] w fun e w' => e = .returned (.bool (stOkB d s && mayGiveB d s a)) ∧ Below w.heap.size w w' := by
  have HP := Lib.hid hp
  have HS := Lib.hid hs
  obtain ⟨⟨P0, P1, P2, P3, k0, k1, k2, k3, rfl, s0, s1, s2, s3⟩, b0, b1, b2, b3⟩ := hp
  obtain ⟨⟨A0, A1, A2, A3, c0, c1, c2, c3, rfl, t0, t1, t2, t3⟩, f0, f1, f2, f3⟩ := hs
  have S0 := Lib.hid s0
  have S1 := Lib.hid s1
  have S2 := Lib.hid s2
  have S3 := Lib.hid s3
  have R0 := Lib.hid t0
  have R1 := Lib.hid t1
  have R2 := Lib.hid t2
  have R3 := Lib.hid t3
  unfold maxLen at b0 b1 b2 b3 f0 f1 f2 f3
  clear s0 s1 s2 s3 t0 t1 t2 t3
  have T0 := Two.start w (planC P0 P1 P2 P3 d.n0 k0 d.n1 k1 d.n2 k2 d.n3 k3 d.l d.p d.t) (stC A0 A1 A2 A3 s.pods.length c0 s.mnts.length c1 s.devs.length c2 s.lks.length c3 s.ph s.co s.ck s.bo s.ba s.lb s.gd s.pr) 42 47
  obtain ⟨ans, hans⟩ : ∃ ans, (stOkB d s && mayGiveB d s a) = ans := ⟨_, rfl⟩
  rw [hans]
  have HANS := Lib.hid hans
  clear hans
  go_enter Tryz.func112, Tryz.ntmps112
  go_wp2_with fail
  refine (implStateOk_any _ _ d s _ ((HP.out.below T0.A.K (Nat.le_refl _)).more T0.A.K.size) ((HS.out.below T0.A.K (Nat.le_refl _)).more T0.A.K.size)).mono ?_
  rintro e w1 ⟨rfl, hb⟩
  have T1 := T0.step hb
  have hC := T1.A.C
  have hD := T1.O.C
  clear hb T0
  cases hok : stOkB d s
  · have OKB := Lib.hid hok
    clear hok
    go_wp2
    all_goals (go_ret; exact ⟨ret_bool (by rw [← HANS.out, OKB.out]; rfl), T1.A.K⟩)
  · have OK := Lib.hid (stOkB_iff.1 hok)
    have OKB := Lib.hid hok
    clear hok
    go_wp2_with fail
    refine (isIndex_any _ _ _).mono ?_
    rintro e w2 ⟨rfl, rfl⟩
    cases hin : inB a 0 (d.n3 - 1)
    · have HIN := Lib.hid hin
      clear hin
      go_wp2
      all_goals (go_ret; exact ⟨ret_bool (by rw [← HANS.out, OKB.out]; simp [mayGiveB, HIN.out]), T1.A.K⟩)
    · have HIN := Lib.hid hin
      obtain ⟨i, rfl, hi⟩ := index_nat (a := a) (n := d.n3) (by rw [hin]; decide)
      clear hin
      have hld : i < s.devs.length := by rw [OK.out.nd]; exact hi
      obtain ⟨m, hm, hml, hmp⟩ := dev_mnt OK.out.plan hi
      have hlm : m < s.mnts.length := by rw [OK.out.nm]; exact hml
      obtain ⟨b, off, rfl, hb, q0⟩ := (S3.out.own T1.A).cell1 hi
      obtain ⟨b', off', rfl, hb', hc⟩ := (R2.out.below T1.A.K (Nat.le_refl _)).cell hld
      have p0 := (hc 0 (by decide)).trans (devCs_at s.devs (i := i * 1 + 0) (by omega))
      rw [Nat.add_zero, Nat.mul_one] at p0
      obtain ⟨b2_, off2, rfl, hb2, hc2⟩ := (R1.out.below T1.A.K (Nat.le_refl _)).cell hlm
      have r0 := (hc2 0 (by decide)).trans (mntCs_at s.mnts hlm).1
      rw [Nat.add_zero] at r0
      clear hc hc2
      rw [hm] at q0
      have GB : Hid (giveB d s i = (devA s.devs i && !(mntA s.mnts m).1)) := Lib.hid (by unfold giveB; rw [hmp]; rfl)
      have HANS2 : Hid (ans = giveB d s i) := Lib.hid (by rw [← HANS.out, OKB.out]; simp [mayGiveB, HIN.out])
      generalize giveB d s i = g at GB HANS2
      generalize devA s.devs i = x at p0 GB
      generalize (mntA s.mnts m).1 = y at r0 GB
      clear hm hmp
      cases x
      · go_wp2
        all_goals (go_ret; exact ⟨ret_bool (by rw [HANS2.out, GB.out]; rfl), (T1.A).K⟩)
      · go_wp2_with fail
        go_quiet (fail)
        go_wp2
        all_goals (go_ret; exact ⟨ret_bool (by rw [HANS2.out, GB.out]; simp), (T1.A.drewN _).K⟩)

set_option maxRecDepth 100000 in
set_option maxHeartbeats 4000000 in
theorem implChildHeld_any (pv sv : Value) (d : PlanD) (s : StD) (i : Nat) (w : World) (hp : IsPlan w w.heap.size pv d) (hs : IsSt w w.heap.size sv s) (hok : StOk d s) :
    Calls Tryz.prog 119 #[pv, sv, .int .i64 i] w fun e w' => e = .returned (.bool (!(List.range d.n2).all (kidB d s i))) ∧ Below w.heap.size w w' := by
  have HP := Lib.hid hp
  have HS := Lib.hid hs
  obtain ⟨⟨P0, P1, P2, P3, k0, k1, k2, k3, rfl, s0, s1, s2, s3⟩, b0, b1, b2, b3⟩ := hp
  obtain ⟨⟨A0, A1, A2, A3, c0, c1, c2, c3, rfl, t0, t1, t2, t3⟩, f0, f1, f2, f3⟩ := hs
  have S0 := Lib.hid s0
  have S1 := Lib.hid s1
  have S2 := Lib.hid s2
  have S3 := Lib.hid s3
  have R0 := Lib.hid t0
  have R1 := Lib.hid t1
  have R2 := Lib.hid t2
  have R3 := Lib.hid t3
  unfold maxLen at b0 b1 b2 b3 f0 f1 f2 f3
  clear s0 s1 s2 s3 t0 t1 t2 t3
  have T0 := Two.start w (planC P0 P1 P2 P3 d.n0 k0 d.n1 k1 d.n2 k2 d.n3 k3 d.l d.p d.t) (stC A0 A1 A2 A3 s.pods.length c0 s.mnts.length c1 s.devs.length c2 s.lks.length c3 s.ph s.co s.ck s.bo s.ba s.lb s.gd s.pr) 42 47
  have HLN := Lib.hid hok.nm
  obtain ⟨ans, hans⟩ : ∃ ans, (List.range d.n2).all (kidB d s i) = ans := ⟨_, rfl⟩
  rw [hans]
  have HANS := Lib.hid hans
  clear hans hok
  have hC := T0.A.C
  have hD := T0.O.C
  go_enter Tryz.func119, Tryz.ntmps119
  go_wp2
  go_step3
  go_wp2
  go_step3
  go_wp2_with fail
  go_loopw [7, 13] (fun h j wr => h = .bool false ∧ ∃ k : Nat, k ≤ d.n2 ∧ j = .int .i64 k ∧ (∀ j, j < k → kidB d s i j = true) ∧ Two w wr (planC P0 P1 P2 P3 d.n0 k0 d.n1 k1 d.n2 k2 d.n3 k3 d.l d.p d.t) (stC A0 A1 A2 A3 s.pods.length c0 s.mnts.length c1 s.devs.length c2 s.lks.length c3 s.ph s.co s.ck s.bo s.ba s.lb s.gd s.pr)) (fun _ j _ => d.n2 - (intOf j).toNat)
  case atStart => exact ⟨rfl, 0, Nat.zero_le _, rfl, fun j hj => absurd hj (by omega), T0⟩
  case round =>
    clear hC hD T0
    obtain ⟨rfl, k, hk, rfl, hall, T⟩ := hrel
    have HALL := Lib.hid hall
    clear hall
    have hC := T.A.C
    have hD := T.O.C
    by_cases hlt : k < d.n2
    · have hlp : k < s.mnts.length := by rw [HLN.out]; exact hlt
      obtain ⟨b3_, off3, rfl, hb3, q0, q1⟩ := (S2.out.own T.A).cell2 hlt
      obtain ⟨b4_, off4, rfl, hb4, hc⟩ := (R1.out.below T.A.K (Nat.le_refl _)).cell hlp
      have r0 := (hc 0 (by decide)).trans (mntCs_at s.mnts (i := k) hlp).1
      rw [Nat.add_zero] at r0
      clear hc
      have KB : Hid (kidB d s i k = !(decide (d.x2 (k * 2 + 1) = i) && (mntA s.mnts k).1)) := Lib.hid rfl
      have HFALSE : Hid (kidB d s i k = false → ans = false) := Lib.hid fun h => by rw [← HANS.out, all_not hlt h]
      have HSTEP : Hid (kidB d s i k = true → ∀ j, j < k + 1 → kidB d s i j = true) := Lib.hid fun h => step_all HALL.out h
      have hz := T.A.z
      have hz' := T.O.z
      have hb4' : b4_ < wr.heap.size := Nat.lt_of_lt_of_le hb4 T.A.K.size
      generalize kidB d s i k = kb at KB HFALSE HSTEP
      generalize (mntA s.mnts k).1 = z at r0 KB
      generalize d.x2 (k * 2) = p at q0
      cases hv : (d.x2 (k * 2 + 1) != (i : Int))
      · cases z
        · have CF : Hid (kb = true) := Lib.hid (by rw [KB.out]; simp)
          clear KB HFALSE
          go_wp2
          refine ⟨⟨rfl, k + 1, by omega, by go_num, HSTEP.out CF.out, T.step ((Below.refl _ _).alloc (Nat.le_refl _) _)⟩, by simp [intOf]; omega⟩
        · have CF : Hid (kb = false) := Lib.hid (by rw [KB.out]; simp at hv; simp [hv])
          clear KB HSTEP
          go_wp2
          all_goals (first | rw [Exit.noGoto_ret] | skip); all_goals (go_ret; exact ⟨ret_bool (by rw [HFALSE.out CF.out]; rfl), (T.step ((Below.refl _ _).alloc (Nat.le_refl _) _)).A.K⟩)
      · have CF : Hid (kb = true) := Lib.hid (by rw [KB.out]; simp at hv; simp [hv])
        clear KB HFALSE
        go_wp2
        refine ⟨⟨rfl, k + 1, by omega, by go_num, HSTEP.out CF.out, T.step ((Below.refl _ _).alloc (Nat.le_refl _) _)⟩, by simp [intOf]; omega⟩
    · obtain rfl : k = d.n2 := by omega
      go_wp2
      all_goals (first | rw [Exit.noGoto_ret] | skip); all_goals (go_ret; exact ⟨ret_bool (by rw [← HANS.out, all_yes HALL.out]; rfl), T.A.K⟩)

set_option maxRecDepth 100000 in
set_option maxHeartbeats 4000000 in
theorem implMayFree_any (pv sv : Value) (d : PlanD) (s : StD) (a : Int) (w : World) (hp : IsPlan w w.heap.size pv d) (hs : IsSt w w.heap.size sv s) :
    Calls Tryz.prog 111 #[pv, sv, .int .i64 a] w fun e w' => e = .returned (.bool (stOkB d s && mayFreeB d s a)) ∧ Below w.heap.size w w' := by
  have HP := Lib.hid hp
  have HS := Lib.hid hs
  obtain ⟨⟨P0, P1, P2, P3, k0, k1, k2, k3, rfl, s0, s1, s2, s3⟩, b0, b1, b2, b3⟩ := hp
  obtain ⟨⟨A0, A1, A2, A3, c0, c1, c2, c3, rfl, t0, t1, t2, t3⟩, f0, f1, f2, f3⟩ := hs
  have S0 := Lib.hid s0
  have S1 := Lib.hid s1
  have S2 := Lib.hid s2
  have S3 := Lib.hid s3
  have R0 := Lib.hid t0
  have R1 := Lib.hid t1
  have R2 := Lib.hid t2
  have R3 := Lib.hid t3
  unfold maxLen at b0 b1 b2 b3 f0 f1 f2 f3
  clear s0 s1 s2 s3 t0 t1 t2 t3
  have T0 := Two.start w (planC P0 P1 P2 P3 d.n0 k0 d.n1 k1 d.n2 k2 d.n3 k3 d.l d.p d.t) (stC A0 A1 A2 A3 s.pods.length c0 s.mnts.length c1 s.devs.length c2 s.lks.length c3 s.ph s.co s.ck s.bo s.ba s.lb s.gd s.pr) 42 47
  obtain ⟨ans, hans⟩ : ∃ ans, (stOkB d s && mayFreeB d s a) = ans := ⟨_, rfl⟩
  rw [hans]
  have HANS := Lib.hid hans
  clear hans
  go_enter Tryz.func111, Tryz.ntmps111
  go_wp2_with fail
  refine (implStateOk_any _ _ d s _ ((HP.out.below T0.A.K (Nat.le_refl _)).more T0.A.K.size) ((HS.out.below T0.A.K (Nat.le_refl _)).more T0.A.K.size)).mono ?_
  rintro e w1 ⟨rfl, hb⟩
  have T1 := T0.step hb
  have hC := T1.A.C
  have hD := T1.O.C
  clear hb T0
  cases hok : stOkB d s
  · have OKB := Lib.hid hok
    clear hok
    go_wp2
    all_goals (go_ret; exact ⟨ret_bool (by rw [← HANS.out, OKB.out]; rfl), T1.A.K⟩)
  · have OK := Lib.hid (stOkB_iff.1 hok)
    have OKB := Lib.hid hok
    clear hok
    go_wp2_with fail
    refine (isIndex_any _ _ _).mono ?_
    rintro e w2 ⟨rfl, rfl⟩
    cases hin : inB a 0 (d.n2 - 1)
    · have HIN := Lib.hid hin
      clear hin
      go_wp2
      all_goals (go_ret; exact ⟨ret_bool (by rw [← HANS.out, OKB.out]; simp [mayFreeB, HIN.out]), T1.A.K⟩)
    · have HIN := Lib.hid hin
      obtain ⟨i, rfl, hi⟩ := index_nat (a := a) (n := d.n2) (by rw [hin]; decide)
      clear hin
      have HLN := Lib.hid OK.out.nm
      obtain ⟨m, hm, hml, hmp⟩ := mount_pod OK.out.plan hi
      have hlm : m < s.pods.length := by rw [OK.out.np]; exact hml
      obtain ⟨b, off, rfl, hb, q0, -⟩ := (S2.out.own T1.A).cell2 hi
      obtain ⟨b', off', rfl, hb', hc⟩ := (R1.out.below T1.A.K (Nat.le_refl _)).cell (i := i) (by rw [HLN.out]; exact hi)
      have p0 := (hc 0 (by decide)).trans (mntCs_at s.mnts (i := i) (by rw [HLN.out]; exact hi)).1
      obtain ⟨b2_, off2, rfl, hb2, hc2⟩ := (R0.out.below T1.A.K (Nat.le_refl _)).cell hlm
      have r0 := (hc2 0 (by decide)).trans (podCs_at s.pods hlm).1
      have r1 := (hc2 1 (by decide)).trans (podCs_at s.pods hlm).2
      rw [Nat.add_zero] at r0 p0
      clear hc hc2
      rw [hm] at q0
      have GB : Hid (ans = ((mntA s.mnts i).1 && !aliveB (podA s.pods m).1 && (List.range d.n2).all (kidB d s i))) := Lib.hid (by
        rw [← HANS.out, OKB.out, mayFreeB, HIN.out, Int.toNat_natCast]; unfold freeB; rw [hmp]; rfl)
      have hlti : i < s.mnts.length := by rw [HLN.out]; exact hi
      generalize hX : (mntA s.mnts i).1 = x at p0 GB
      generalize podA s.pods m = y at r0 r1 GB
      obtain ⟨y, z⟩ := y
      dsimp only at r0 r1 GB
      clear hX hm hmp HANS
      cases x
      · go_wp2
        all_goals (go_ret; exact ⟨ret_bool (by rw [GB.out]; rfl), T1.A.K⟩)
      · go_upto_region 3 with fail
        have hz := T1.A.z
        have hz' := T1.O.z
        have hzb : b < w1.heap.size := hb
        have hzb2 : b2_ < w1.heap.size := Nat.lt_of_lt_of_le hb2 T1.A.K.size
        go_cut [7] (fun s7 wx => ∃ g, s7 = .pointer (some ⟨g, 0, none⟩) ∧ wx.heap[g]? = some (.cells #[.int .i64 y, .int .i64 z] 109) ∧ Below w1.heap.size w1 wx)
        case first =>
          go_region
          all_goals (go_wp2_with fail; go_meet)
          all_goals
            apply Exists.intro
            refine ⟨rfl, ?h3, ?hb⟩
            case h3 => repeat (first | exact alloc_here (by simp) | refine (alloc_there (by simp <;> omega)).trans ?_)
            case hb => repeat (first | exact Below.refl _ _ | refine Below.drew ?_ | refine Below.alloc ?_ (by simp <;> omega) _)
        case rest =>
          obtain ⟨g, rfl, hg, Kx⟩ := hcut
          have T2 := T1.step Kx
          have XB : ∀ o, wc.cell? ⟨g, o, none⟩ = #[Value.int .i64 y, .int .i64 z][o]? := fun o => cell_of_row _ _ o _ _ _ hg
          clear T1 hC hD hz hz' q0 p0 r0 r1
          have hC := T2.A.C
          have hD := T2.O.C
          go_wp2_with fail
          refine (implAlive_any _ _).mono ?_
          rintro e w5 ⟨rfl, rfl⟩
          cases ha : aliveB y
          · have HAL := Lib.hid ha
            clear ha
            go_wp2_with fail
            refine (implChildHeld_any _ _ d s i _ ((HP.out.below T2.A.K (Nat.le_refl _)).more T2.A.K.size) ((HS.out.below T2.A.K (Nat.le_refl _)).more T2.A.K.size) OK.out).mono ?_
            rintro e w6 ⟨rfl, hb6⟩
            have T3 := T2.step hb6
            clear hb6 T2 hC hD
            generalize (List.range d.n2).all (kidB d s i) = u at GB ⊢
            go_wp2
            all_goals (go_ret; exact ⟨ret_bool (by rw [GB.out, HAL.out]; simp), T3.A.K⟩)
          · have HAL := Lib.hid ha
            clear ha
            go_wp2
            all_goals (go_ret; exact ⟨ret_bool (by rw [GB.out, HAL.out]; rfl), T2.A.K⟩)

end Go.Proofs.YtdphpjnecjofeaaGreat
