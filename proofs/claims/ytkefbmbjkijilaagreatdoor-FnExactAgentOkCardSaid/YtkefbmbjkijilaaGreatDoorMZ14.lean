/-
  The program's StateOk, whole.
-/
import Derived.Test.YtkefbmbjkijilaaGreatDoorMZxVx
import Derived.Laws.Rows
import Derived.Test.YtkefbmbjkijilaaGreatDoorMZ0
/- Va -/
set_option linter.unusedVariables false
namespace Go.Proofs.YtkefbmbjkijilaaGreatDoor
open Go.RowKit

section
variable (A0 A1 A2 A3 : Option Addr) (n0 c0 n1 c1 n2 c2 n3 c3 : Nat) (l p t : Int) (E0 E1 E2 E3 : Option Addr) (m0 k0 m1 k1 m2 k2 m3 k3 : Nat) (ph : Int) (co : Bool) (ck bo ba lb gd pr : Int)
set_option maxHeartbeats 1000000 in
theorem countsRight_any (w : World) (b0 : n0 ≤ maxLen) (b2 : n2 ≤ maxLen) (b3 : n3 ≤ maxLen) (d0 : m0 ≤ maxLen) (d1 : m1 ≤ maxLen) (d2 : m2 ≤ maxLen) :
    Calls Tryz.prog 149 #[.agg (besC A0 A1 A2 A3 n0 c0 n1 c1 n2 c2 n3 c3 l p t E0 E1 E2 E3 m0 k0 m1 k1 m2 k2 m3 k3 ph co ck bo ba lb gd pr)] w fun e w' =>
      e = .returned (.bool (decide (m0 = n0) && decide (m1 = n2) && decide (m2 = n3))) ∧ Below w.heap.size w w' := by
  unfold maxLen at b0 b2 b3 d0 d1 d2
  by_cases e0 : m0 = n0
  · by_cases e1 : m1 = n2
    · by_cases e2 : m2 = n3
      · subst e0 e1 e2
        go_enter Tryz.func149, Tryz.ntmps149
        go_wp2
        all_goals (go_ret; refine ⟨ret_bool (by simp), (Below.refl _ _).alloc (Nat.le_refl _) _⟩)
      · subst e0 e1
        have e2' : ¬ (m2 : Int) = n3 := by omega
        go_enter Tryz.func149, Tryz.ntmps149
        go_wp2
        all_goals (go_ret; refine ⟨ret_bool (by simp [e2, e2']), (Below.refl _ _).alloc (Nat.le_refl _) _⟩)
    · subst e0
      have e1' : ¬ (m1 : Int) = n2 := by omega
      go_enter Tryz.func149, Tryz.ntmps149
      go_wp2
      all_goals (go_ret; refine ⟨ret_bool (by simp [e1]), (Below.refl _ _).alloc (Nat.le_refl _) _⟩)
  · have e0' : ¬ (m0 : Int) = n0 := by omega
    go_enter Tryz.func149, Tryz.ntmps149
    go_wp2
    all_goals (go_ret; refine ⟨ret_bool (by simp [e0]), (Below.refl _ _).alloc (Nat.le_refl _) _⟩)

def cntB (ph ck bo ba lb : Int) : Bool := inB ph 0 8 && inB ba 0 6 && inB ck 0 1000000 && inB bo 0 1000000 && inB lb 0 1000000
set_option maxHeartbeats 1000000 in
theorem numbersRight_any (w : World) :
    Calls Tryz.prog 150 #[cntV ph ck bo ba lb gd pr] w fun e w' => e = .returned (.bool (cntB ph ck bo ba lb)) ∧ Below w.heap.size w w' := by
  go_enter Tryz.func150, Tryz.ntmps150
  go_wp2_with (go_at_call 133; refine (within_any _ _ _ _).mono ?_; rintro e w' ⟨rfl, rfl⟩)
  all_goals (go_ret; refine ⟨ret_bool ?_, (Below.refl _ _).alloc (Nat.le_refl _) _⟩)
  all_goals simp [cntB, *]

def prbB (gd pr tr : Int) : Bool := inB gd 0 pr && decide (pr ≤ tr)
set_option maxHeartbeats 1000000 in
theorem probesRight_any (tr : Int) (w : World) :
    Calls Tryz.prog 151 #[cntV ph ck bo ba lb gd pr, .int .i64 tr] w fun e w' => e = .returned (.bool (prbB gd pr tr)) ∧ Below w.heap.size w w' := by
  unfold prbB
  by_cases h2 : pr ≤ tr
  · go_enter Tryz.func151, Tryz.ntmps151
    go_wp2_with (go_at_call 133; refine (within_any _ _ _ _).mono ?_; rintro e w' ⟨rfl, rfl⟩)
    all_goals (go_ret; refine ⟨ret_bool ?_, (Below.refl _ _).alloc (Nat.le_refl _) _⟩)
    all_goals simp [*]
  · have h3 : tr < pr := by omega
    go_enter Tryz.func151, Tryz.ntmps151
    go_wp2_with (go_at_call 133; refine (within_any _ _ _ _).mono ?_; rintro e w' ⟨rfl, rfl⟩)
    all_goals (go_ret; refine ⟨ret_bool ?_, (Below.refl _ _).alloc (Nat.le_refl _) _⟩)
    all_goals simp [*]

set_option maxHeartbeats 1000000 in
theorem besPod_any (L : List (Int × Int)) (i : Nat) (w : World) (hl : L.length = m0) (s0 : SlV w w.heap.size 2 E0 m0 (podCs L)) (hi : i < m0) (b0 : m0 ≤ maxLen) :
    Calls Tryz.prog 152 #[.agg (besC A0 A1 A2 A3 n0 c0 n1 c1 n2 c2 n3 c3 l p t E0 E1 E2 E3 m0 k0 m1 k1 m2 k2 m3 k3 ph co ck bo ba lb gd pr), .int .i64 i] w fun e w' =>
      e = .returned (.bool (podOkB (podA L i))) ∧ Below w.heap.size w w' := by
  unfold maxLen at b0
  obtain ⟨b, off, rfl, hb, hc⟩ := s0.cell hi
  have hp := podCs_at L (i := i) (by omega)
  have q0 := (hc 0 (by decide)).trans hp.1
  have q1 := (hc 1 (by decide)).trans hp.2
  rw [Nat.add_zero] at q0
  clear hc hp s0 hl
  generalize podA L i = r at *
  obtain ⟨x, y⟩ := r
  dsimp only at q0 q1
  go_enter Tryz.func152, Tryz.ntmps152
  go_wp2_with (go_at_call 133; refine (within_any _ _ _ _).mono ?_; rintro e w' ⟨rfl, rfl⟩)
  all_goals (go_ret; refine ⟨ret_bool ?_, ((Below.refl _ _).alloc (Nat.le_refl _) _).alloc (by simp) _⟩)
  all_goals simp [podOkB, *]

set_option maxHeartbeats 1000000 in
theorem besMount_any (L : List (Bool × Int)) (i : Nat) (w : World) (hl : L.length = m1) (s0 : SlV w w.heap.size 2 E1 m1 (mntCs L)) (hi : i < m1) (b0 : m1 ≤ maxLen) :
    Calls Tryz.prog 153 #[.agg (besC A0 A1 A2 A3 n0 c0 n1 c1 n2 c2 n3 c3 l p t E0 E1 E2 E3 m0 k0 m1 k1 m2 k2 m3 k3 ph co ck bo ba lb gd pr), .int .i64 i] w fun e w' =>
      e = .returned (.bool (mntOkB (mntA L i))) ∧ Below w.heap.size w w' := by
  unfold maxLen at b0
  obtain ⟨b, off, rfl, hb, hc⟩ := s0.cell hi
  have hp := mntCs_at L (i := i) (by omega)
  have q0 := (hc 0 (by decide)).trans hp.1
  have q1 := (hc 1 (by decide)).trans hp.2
  rw [Nat.add_zero] at q0
  clear hc hp s0 hl
  generalize mntA L i = r at *
  obtain ⟨x, y⟩ := r
  dsimp only at q0 q1
  cases x
  · go_enter Tryz.func153, Tryz.ntmps153
    go_wp2_with (go_at_call 133; refine (within_any _ _ _ _).mono ?_; rintro e w' ⟨rfl, rfl⟩)
    all_goals (go_ret; refine ⟨ret_bool ?_, ((Below.refl _ _).alloc (Nat.le_refl _) _).alloc (by simp) _⟩)
    all_goals simp [mntOkB, *]
  · go_enter Tryz.func153, Tryz.ntmps153
    go_wp2_with (go_at_call 133; refine (within_any _ _ _ _).mono ?_; rintro e w' ⟨rfl, rfl⟩)
    all_goals (go_ret; refine ⟨ret_bool ?_, ((Below.refl _ _).alloc (Nat.le_refl _) _).alloc (by simp) _⟩)
    all_goals simp [mntOkB, *]

set_option maxHeartbeats 1000000 in
theorem besLock_any (L : List Int) (i : Nat) (w : World) (hl : L.length = m3) (s0 : SlV w w.heap.size 1 E3 m3 (lkCs L)) (hi : i < m3) (b0 : m3 ≤ maxLen) :
    Calls Tryz.prog 154 #[.agg (besC A0 A1 A2 A3 n0 c0 n1 c1 n2 c2 n3 c3 l p t E0 E1 E2 E3 m0 k0 m1 k1 m2 k2 m3 k3 ph co ck bo ba lb gd pr), .int .i64 i] w fun e w' =>
      e = .returned (.bool (lkOkB L i)) ∧ Below w.heap.size w w' := by
  unfold maxLen at b0
  obtain ⟨b, off, rfl, hb, hc⟩ := s0.cell hi
  have q0 := hc 0 (by decide)
  rw [Nat.add_zero, Nat.mul_one, Nat.add_zero, lkCs_at L (i := i) (by omega)] at q0
  have q1 : w.cell? ⟨b, off + (i - 1), none⟩ = some (.int .i64 (lkA L (i - 1))) := by
    obtain ⟨b', off', e, -, hc'⟩ := s0.cell (i := i - 1) (by omega)
    injection e with e
    injection e with e1 e2 _
    subst e1 e2
    have := hc' 0 (by decide)
    rwa [Nat.add_zero, Nat.mul_one, Nat.add_zero, lkCs_at L (i := i - 1) (by omega)] at this
  have HOK : Hid (lkOkB L i = (inB (lkA L i) 0 7 && (decide (i = 0) || decide (lkA L (i - 1) < lkA L i)))) := Lib.hid rfl
  clear hc s0 hl
  generalize hx : lkA L i = x at *
  generalize hy : lkA L (i - 1) = y at *
  clear hx hy
  by_cases hi0 : i = 0
  · subst hi0
    rw [Nat.add_zero] at q0
    go_enter Tryz.func154, Tryz.ntmps154
    go_wp2_with (go_at_call 134; refine (isIndex_any _ _ _).mono ?_; rintro e w' ⟨rfl, rfl⟩)
    all_goals (go_ret; refine ⟨ret_bool ?_, (Below.refl _ _).alloc (Nat.le_refl _) _⟩)
    all_goals (rw [HOK.out]; simp [*])
  · have hpos : (0 : Int) < (i : Int) := by omega
    have hposN : 0 < i := by omega
    have hi1 : ((i : Int) - 1) = ((i - 1 : Nat) : Int) := by omega
    by_cases hxy : y < x
    · go_enter Tryz.func154, Tryz.ntmps154
      go_wp2_with (go_at_call 134; refine (isIndex_any _ _ _).mono ?_; rintro e w' ⟨rfl, rfl⟩)
      all_goals (go_ret; refine ⟨ret_bool ?_, (Below.refl _ _).alloc (Nat.le_refl _) _⟩)
      all_goals (rw [HOK.out]; simp [*])
    · have hle : x ≤ y := by omega
      go_enter Tryz.func154, Tryz.ntmps154
      go_wp2_with (go_at_call 134; refine (isIndex_any _ _ _).mono ?_; rintro e w' ⟨rfl, rfl⟩)
      all_goals (go_ret; refine ⟨ret_bool ?_, (Below.refl _ _).alloc (Nat.le_refl _) _⟩)
      all_goals (rw [HOK.out]; simp [*])
end
end Go.Proofs.YtkefbmbjkijilaaGreatDoor
/- Vb -/
set_option linter.unusedVariables false
namespace Go.Proofs.YtkefbmbjkijilaaGreatDoor
open Go.RowKit

theorem enter_besPod (x y : Value) (wr : World) : (callFunc 152 #[x, y]).run Tryz.prog wr = .ok (.enter 152 #[x, y]) wr := by simp [go_sem]
theorem enter_besMount (x y : Value) (wr : World) : (callFunc 153 #[x, y]).run Tryz.prog wr = .ok (.enter 153 #[x, y]) wr := by simp [go_sem]
theorem enter_besLock (x y : Value) (wr : World) : (callFunc 154 #[x, y]).run Tryz.prog wr = .ok (.enter 154 #[x, y]) wr := by simp [go_sem]

section
variable (A0 A1 A2 A3 : Option Addr) (n0 c0 n1 c1 n2 c2 n3 c3 : Nat) (l p t : Int) (E0 E1 E2 E3 : Option Addr) (m0 k0 m1 k1 m2 k2 m3 k3 : Nat) (ph : Int) (co : Bool) (ck bo ba lb gd pr : Int)
theorem all_besPods (L : List (Int × Int)) (w W : World) (K : Below w.heap.size w W) (hl : L.length = m0) (s0 : SlV w w.heap.size 2 E0 m0 (podCs L)) (b0 : m0 ≤ maxLen) :
    Calls Tryz.prog 137 #[.int .i64 m0, .func (.func 152) #[.agg (besC A0 A1 A2 A3 n0 c0 n1 c1 n2 c2 n3 c3 l p t E0 E1 E2 E3 m0 k0 m1 k1 m2 k2 m3 k3 ph co ck bo ba lb gd pr)] #[]] W fun e w' =>
      e = .returned (.bool (allB m0 (fun i => podOkB (podA L i)))) ∧ Below W.heap.size W w' :=
  allBelow_any _ _ m0 _ W b0 enter_besPod fun i hi wr hb =>
    besPod_any A0 A1 A2 A3 n0 c0 n1 c1 n2 c2 n3 c3 l p t E0 E1 E2 E3 m0 k0 m1 k1 m2 k2 m3 k3 ph co ck bo ba lb gd pr L i wr hl (s0.go (below_via K hb)) hi b0
theorem all_besMounts (L : List (Bool × Int)) (w W : World) (K : Below w.heap.size w W) (hl : L.length = m1) (s0 : SlV w w.heap.size 2 E1 m1 (mntCs L)) (b0 : m1 ≤ maxLen) :
    Calls Tryz.prog 137 #[.int .i64 m1, .func (.func 153) #[.agg (besC A0 A1 A2 A3 n0 c0 n1 c1 n2 c2 n3 c3 l p t E0 E1 E2 E3 m0 k0 m1 k1 m2 k2 m3 k3 ph co ck bo ba lb gd pr)] #[]] W fun e w' =>
      e = .returned (.bool (allB m1 (fun i => mntOkB (mntA L i)))) ∧ Below W.heap.size W w' :=
  allBelow_any _ _ m1 _ W b0 enter_besMount fun i hi wr hb =>
    besMount_any A0 A1 A2 A3 n0 c0 n1 c1 n2 c2 n3 c3 l p t E0 E1 E2 E3 m0 k0 m1 k1 m2 k2 m3 k3 ph co ck bo ba lb gd pr L i wr hl (s0.go (below_via K hb)) hi b0
theorem all_besLocks (L : List Int) (w W : World) (K : Below w.heap.size w W) (hl : L.length = m3) (s0 : SlV w w.heap.size 1 E3 m3 (lkCs L)) (b0 : m3 ≤ maxLen) :
    Calls Tryz.prog 137 #[.int .i64 m3, .func (.func 154) #[.agg (besC A0 A1 A2 A3 n0 c0 n1 c1 n2 c2 n3 c3 l p t E0 E1 E2 E3 m0 k0 m1 k1 m2 k2 m3 k3 ph co ck bo ba lb gd pr)] #[]] W fun e w' =>
      e = .returned (.bool (allB m3 (lkOkB L))) ∧ Below W.heap.size W w' :=
  allBelow_any _ _ m3 _ W b0 enter_besLock fun i hi wr hb =>
    besLock_any A0 A1 A2 A3 n0 c0 n1 c1 n2 c2 n3 c3 l p t E0 E1 E2 E3 m0 k0 m1 k1 m2 k2 m3 k3 ph co ck bo ba lb gd pr L i wr hl (s0.go (below_via K hb)) hi b0
end

def rightB (n0 n2 n3 : Nat) (t : Int) (s : StD) : Bool :=
  (decide (s.pods.length = n0) && decide (s.mnts.length = n2) && decide (s.devs.length = n3)) && cntB s.ph s.ck s.bo s.ba s.lb && prbB s.gd s.pr t && (s.co == decide (s.ph ≠ 0)) &&
  allB s.pods.length (fun i => podOkB (podA s.pods i)) && allB s.mnts.length (fun i => mntOkB (mntA s.mnts i)) && allB s.lks.length (lkOkB s.lks)
theorem stOkB_right (d : PlanD) (s : StD) : stOkB d s = (planOkB d && rightB d.n0 d.n2 d.n3 d.t s) := by
  rw [stOkB_parts]
  unfold rightB partsB cntB prbB
  generalize (s.co == decide (s.ph ≠ 0)) = b
  rw [Bool.eq_iff_iff]
  simp only [Bool.and_eq_true]
  constructor
  · rintro ⟨⟨⟨⟨⟨⟨⟨⟨⟨h0, h1⟩, h2⟩, h3⟩, h4⟩, h5⟩, h6⟩, h7⟩, h8⟩, ⟨⟨⟨⟨h9, ha⟩, hb⟩, hc⟩, hd⟩, he⟩
    simp [*]
  · rintro ⟨h0, ⟨⟨⟨⟨⟨⟨⟨h9, ha⟩, hb⟩, ⟨⟨⟨h1, h5⟩, h3⟩, h4⟩, h6⟩, h7, h8⟩, h2⟩, hc⟩, hd⟩, he⟩
    simp [*]

theorem wpList_load_rowG {P : Program} {ops : Array Oper} {rest : List Oper} {o : Oper} {a : Act} {w : World} {Q : Exit → Act → World → Prop} (hgd : Region.wanted o (yielded ops a.tmps) = true) (ty : TypeId) (x : Operand) (ho : o.op = .load ty x)
    (g : Nat) (hx : a.eval x = .pointer (some ⟨g, 0, none⟩)) (t : TypeId) (cs : Array Value) (fr : Nat × Nat) (d : TypeDesc) (hg : w.heap[g]? = some (.cells cs t fr))
    (hu : P.underlying ty = some d) (hd : (match d with | .struct _ | .array _ _ => true | _ => false) = true) (hi : (P.info? ty).map (·.size) = some cs.size)
    (h : wpList P ops Q rest (a.put o.dst (.agg cs)) w) : wpList P ops Q (o :: rest) a w :=
  wpList_step fun K hK => by rw [if_pos hgd]; exact wp_load_row ty x ho g hx t cs fr d hg hu hd hi (hK _ _ h)

theorem load_beside {ops : Array Oper} {rest : List Oper} {dst : Option Tmp} {ty : TypeId} {pos : String} {after : Array Edge} {gd : Option (Nat × Bool)} {a : Act} {w : World} {Q : Exit → Act → World → Prop} {g : Nat} {cs : Array Value}
    (hgd : Region.wanted (Oper.mk dst (.load 161 (.tmp 1)) ty pos after gd) (yielded ops a.tmps) = true) (hx : a.eval (.tmp 1) = .pointer (some ⟨g, 0, none⟩)) (hg : w.heap[g]? = some (.cells cs 161))
    (hi : (Tryz.prog.info? 161).map (·.size) = some cs.size)
    (h : wpList Tryz.prog ops Q rest (a.put dst (.agg cs)) w) : wpList Tryz.prog ops Q (Oper.mk dst (.load 161 (.tmp 1)) ty pos after gd :: rest) a w :=
  wpList_load_rowG hgd 161 (.tmp 1) rfl g hx _ cs _ _ hg Tryz.underlying161 rfl hi h

set_option maxHeartbeats 4000000 in
set_option maxRecDepth 20000 in
theorem right_run (cs : Array Value) (ph ck bo ba lb gd pr t : Int) (co : Bool) (E0 E1 E3 : Option Addr) (m0 k0 m1 k1 m3 k3 : Nat) (w : World) (C1 C2 C3 C4 C5 C6 : Bool) (hsz : cs.size = 19)
    (e0 : cs[0]? = some (.int .i64 ph)) (e1 : cs[1]? = some (.int .i64 ck)) (e2 : cs[2]? = some (.int .i64 bo)) (e3 : cs[3]? = some (.int .i64 ba)) (e4 : cs[4]? = some (.int .i64 lb)) (e5 : cs[5]? = some (.int .i64 gd)) (e6 : cs[6]? = some (.int .i64 pr))
    (e13 : cs[13]? = some (.int .i64 t)) (e14 : cs[14]? = some (.bool co)) (e15 : cs[15]? = some (.slice E0 m0 k0)) (e16 : cs[16]? = some (.slice E1 m1 k1)) (e18 : cs[18]? = some (.slice E3 m3 k3))
    (h1 : ∀ W, Below w.heap.size w W → Calls Tryz.prog 149 #[.agg cs] W fun e w' => e = .returned (.bool C1) ∧ Below W.heap.size W w')
    (h2 : ∀ W, Below w.heap.size w W → Calls Tryz.prog 150 #[cntV ph ck bo ba lb gd pr] W fun e w' => e = .returned (.bool C2) ∧ Below W.heap.size W w')
    (h3 : ∀ W, Below w.heap.size w W → Calls Tryz.prog 151 #[cntV ph ck bo ba lb gd pr, .int .i64 t] W fun e w' => e = .returned (.bool C3) ∧ Below W.heap.size W w')
    (h4 : ∀ W, Below w.heap.size w W → Calls Tryz.prog 137 #[.int .i64 m0, .func (.func 152) #[.agg cs] #[]] W fun e w' => e = .returned (.bool C4) ∧ Below W.heap.size W w')
    (h5 : ∀ W, Below w.heap.size w W → Calls Tryz.prog 137 #[.int .i64 m1, .func (.func 153) #[.agg cs] #[]] W fun e w' => e = .returned (.bool C5) ∧ Below W.heap.size W w')
    (h6 : ∀ W, Below w.heap.size w W → Calls Tryz.prog 137 #[.int .i64 m3, .func (.func 154) #[.agg cs] #[]] W fun e w' => e = .returned (.bool C6) ∧ Below W.heap.size W w') :
    Calls Tryz.prog 119 #[.agg cs] w fun e w' => e = .returned (.bool (C1 && C2 && C3 && (co == decide (ph ≠ 0)) && C4 && C5 && C6)) ∧ Below w.heap.size w w' := by
  have hi : (Tryz.prog.info? 161).map (·.size) = some cs.size := by rw [hsz]; kernel_rfl
  have H1 := Lib.hid h1
  have H2 := Lib.hid h2
  have H3 := Lib.hid h3
  have H4 := Lib.hid h4
  have H5 := Lib.hid h5
  have H6 := Lib.hid h6
  have HI := Lib.hid hi
  clear h1 h2 h3 h4 h5 h6 hi
  have G0 := Lib.hid e0
  have G1 := Lib.hid e1
  have G2 := Lib.hid e2
  have G3 := Lib.hid e3
  have G4 := Lib.hid e4
  have G5 := Lib.hid e5
  have G6 := Lib.hid e6
  have G13 := Lib.hid e13
  have G14 := Lib.hid e14
  have G15 := Lib.hid e15
  have G16 := Lib.hid e16
  have G18 := Lib.hid e18
  clear e0 e1 e2 e3 e4 e5 e6 e13 e14 e15 e16 e18
  have X0 := Own.box w cs 161
  have hH := heap_alloc_new w (.cells cs 161)
  go_enter Tryz.func119, Tryz.ntmps119
  go_upto_region 1 with fail
  generalize w.alloc (.cells cs 161) = W at X0 hH ⊢
  go_wp2_with ((with_reducible refine load_beside (g := w.heap.size) (cs := cs) ?_ ?_ hH HI.out ?_); rfl; rfl)
  refine (H1.out _ X0.K).mono ?_
  rintro e w1 ⟨rfl, hb⟩
  replace hH := (hb.block _ X0.z).trans hH
  have X1 := X0.step hb
  have q0 := (X1.C 0).trans G0.out
  have q1 := (X1.C 1).trans G1.out
  have q2 := (X1.C 2).trans G2.out
  have q3 := (X1.C 3).trans G3.out
  have q4 := (X1.C 4).trans G4.out
  have q5 := (X1.C 5).trans G5.out
  have q6 := (X1.C 6).trans G6.out
  clear hb X0
  cases C1
  · go_wp2
    all_goals (go_ret; exact ⟨ret_bool (by simp), X1.K⟩)
  · go_wp2_with fail
    clear q0 q1 q2 q3 q4 q5 q6
    refine (H2.out _ X1.K).mono ?_
    rintro e w2 ⟨rfl, hb⟩
    replace hH := (hb.block _ X1.z).trans hH
    have X2 := X1.step hb
    have q0 := (X2.C 0).trans G0.out
    have q1 := (X2.C 1).trans G1.out
    have q2 := (X2.C 2).trans G2.out
    have q3 := (X2.C 3).trans G3.out
    have q4 := (X2.C 4).trans G4.out
    have q5 := (X2.C 5).trans G5.out
    have q6 := (X2.C 6).trans G6.out
    have q13 := (X2.C 13).trans G13.out
    clear hb X1
    cases C2
    · go_wp2
      all_goals (go_ret; exact ⟨ret_bool (by simp), X2.K⟩)
    · go_wp2_with fail
      clear q0 q1 q2 q3 q4 q5 q6 q13
      refine (H3.out _ X2.K).mono ?_
      rintro e w3 ⟨rfl, hb⟩
      replace hH := (hb.block _ X2.z).trans hH
      have X3 := X2.step hb
      have q0 := (X3.C 0).trans G0.out
      have q14 := (X3.C 14).trans G14.out
      have q15 := (X3.C 15).trans G15.out
      clear hb X2
      cases C3
      · go_wp2
        all_goals (go_ret; exact ⟨ret_bool (by simp), X3.K⟩)
      · by_cases hph : ph = 0
        · subst hph
          cases co
          · go_wp2_with ((with_reducible refine load_beside (g := w.heap.size) (cs := cs) ?_ ?_ hH HI.out ?_); rfl; rfl)
            refine (H4.out _ X3.K).mono ?_
            rintro e w4 ⟨rfl, hb⟩
            replace hH := (hb.block _ X3.z).trans hH
            have X4 := X3.step hb
            have q16 := (X4.C 16).trans G16.out
            clear hb X3
            cases C4
            · go_wp2
              all_goals (go_ret; exact ⟨ret_bool (by simp), X4.K⟩)
            · go_wp2_with ((with_reducible refine load_beside (g := w.heap.size) (cs := cs) ?_ ?_ hH HI.out ?_); rfl; rfl)
              refine (H5.out _ X4.K).mono ?_
              rintro e w5 ⟨rfl, hb⟩
              replace hH := (hb.block _ X4.z).trans hH
              have X5 := X4.step hb
              have q18 := (X5.C 18).trans G18.out
              clear hb X4
              cases C5
              · go_wp2
                all_goals (go_ret; exact ⟨ret_bool (by simp), X5.K⟩)
              · go_wp2_with ((with_reducible refine load_beside (g := w.heap.size) (cs := cs) ?_ ?_ hH HI.out ?_); rfl; rfl)
                refine (H6.out _ X5.K).mono ?_
                rintro e w6 ⟨rfl, hb⟩
                replace hH := (hb.block _ X5.z).trans hH
                have X6 := X5.step hb
                clear hb X5
                go_wp2
                all_goals (go_ret; exact ⟨ret_bool (by simp [*]), X6.K⟩)
          · go_wp2
            all_goals (go_ret; exact ⟨ret_bool (by simp), X3.K⟩)
        · have hne : (ph != 0) = true := by simpa using hph
          cases co
          · go_wp2
            all_goals (go_ret; exact ⟨ret_bool (by simp [hph]), X3.K⟩)
          · go_wp2_with ((with_reducible refine load_beside (g := w.heap.size) (cs := cs) ?_ ?_ hH HI.out ?_); rfl; rfl)
            refine (H4.out _ X3.K).mono ?_
            rintro e w4 ⟨rfl, hb⟩
            replace hH := (hb.block _ X3.z).trans hH
            have X4 := X3.step hb
            have q16 := (X4.C 16).trans G16.out
            clear hb X3
            cases C4
            · go_wp2
              all_goals (go_ret; exact ⟨ret_bool (by simp), X4.K⟩)
            · go_wp2_with ((with_reducible refine load_beside (g := w.heap.size) (cs := cs) ?_ ?_ hH HI.out ?_); rfl; rfl)
              refine (H5.out _ X4.K).mono ?_
              rintro e w5 ⟨rfl, hb⟩
              replace hH := (hb.block _ X4.z).trans hH
              have X5 := X4.step hb
              have q18 := (X5.C 18).trans G18.out
              clear hb X4
              cases C5
              · go_wp2
                all_goals (go_ret; exact ⟨ret_bool (by simp), X5.K⟩)
              · go_wp2_with ((with_reducible refine load_beside (g := w.heap.size) (cs := cs) ?_ ?_ hH HI.out ?_); rfl; rfl)
                refine (H6.out _ X5.K).mono ?_
                rintro e w6 ⟨rfl, hb⟩
                replace hH := (hb.block _ X5.z).trans hH
                have X6 := X5.step hb
                clear hb X5
                go_wp2
                all_goals (go_ret; exact ⟨ret_bool (by simp [*]), X6.K⟩)
end Go.Proofs.YtkefbmbjkijilaaGreatDoor
/- VbS -/
set_option linter.unusedVariables false
namespace Go.Proofs.YtkefbmbjkijilaaGreatDoor
open Go.RowKit

set_option maxHeartbeats 2000000 in
theorem implStateOk_any (pv sv : Value) (d : PlanD) (s : StD) (w : World) (hp : IsPlan w w.heap.size pv d) (h : IsSt w w.heap.size sv s) :
    Calls Tryz.prog 99 #[pv, sv] w fun e w' => e = .returned (.bool (stOkB d s)) ∧ Below w.heap.size w w' := by
  have HP := Lib.hid hp
  obtain ⟨⟨A0, A1, A2, A3, c0, c1, c2, c3, rfl, -, -, -, -⟩, b0, b1, b2, b3⟩ := hp
  obtain ⟨⟨E0, E1, E2, E3, k0, k1, k2, k3, rfl, s0, s1, s2, s3⟩, d0, d1, d2, d3⟩ := h
  have HANS := Lib.hid (stOkB_right d s)
  have HR : Hid (∀ W, Below w.heap.size w W → Calls Tryz.prog 119 #[.agg (besC A0 A1 A2 A3 d.n0 c0 d.n1 c1 d.n2 c2 d.n3 c3 d.l d.p d.t E0 E1 E2 E3 s.pods.length k0 s.mnts.length k1 s.devs.length k2 s.lks.length k3 s.ph s.co s.ck s.bo s.ba s.lb s.gd s.pr)] W fun e w' => e = .returned (.bool (rightB d.n0 d.n2 d.n3 d.t s)) ∧ Below W.heap.size W w') := by
    refine Lib.hid fun W K => ?_
    refine (right_run (besC A0 A1 A2 A3 d.n0 c0 d.n1 c1 d.n2 c2 d.n3 c3 d.l d.p d.t E0 E1 E2 E3 s.pods.length k0 s.mnts.length k1 s.devs.length k2 s.lks.length k3 s.ph s.co s.ck s.bo s.ba s.lb s.gd s.pr) s.ph s.ck s.bo s.ba s.lb s.gd s.pr d.t s.co E0 E1 E3 s.pods.length k0 s.mnts.length k1 s.lks.length k3 W
      _ _ _ _ _ _ rfl rfl rfl rfl rfl rfl rfl rfl rfl rfl rfl rfl rfl
      (fun W' _ => countsRight_any A0 A1 A2 A3 d.n0 c0 d.n1 c1 d.n2 c2 d.n3 c3 d.l d.p d.t E0 E1 E2 E3 s.pods.length k0 s.mnts.length k1 s.devs.length k2 s.lks.length k3 s.ph s.co s.ck s.bo s.ba s.lb s.gd s.pr W' b0 b2 b3 d0 d1 d2)
      (fun W' _ => numbersRight_any s.ph s.ck s.bo s.ba s.lb s.gd s.pr W')
      (fun W' _ => probesRight_any s.ph s.ck s.bo s.ba s.lb s.gd s.pr d.t W')
      (fun W' K' => all_besPods A0 A1 A2 A3 d.n0 c0 d.n1 c1 d.n2 c2 d.n3 c3 d.l d.p d.t E0 E1 E2 E3 s.pods.length k0 s.mnts.length k1 s.devs.length k2 s.lks.length k3 s.ph s.co s.ck s.bo s.ba s.lb s.gd s.pr s.pods w W' (K.trans (K'.mono K.size)) rfl s0 d0)
      (fun W' K' => all_besMounts A0 A1 A2 A3 d.n0 c0 d.n1 c1 d.n2 c2 d.n3 c3 d.l d.p d.t E0 E1 E2 E3 s.pods.length k0 s.mnts.length k1 s.devs.length k2 s.lks.length k3 s.ph s.co s.ck s.bo s.ba s.lb s.gd s.pr s.mnts w W' (K.trans (K'.mono K.size)) rfl s1 d1)
      (fun W' K' => all_besLocks A0 A1 A2 A3 d.n0 c0 d.n1 c1 d.n2 c2 d.n3 c3 d.l d.p d.t E0 E1 E2 E3 s.pods.length k0 s.mnts.length k1 s.devs.length k2 s.lks.length k3 s.ph s.co s.ck s.bo s.ba s.lb s.gd s.pr s.lks w W' (K.trans (K'.mono K.size)) rfl s3 d3)).mono ?_
    rintro e w' ⟨rfl, hb⟩
    exact ⟨rfl, hb⟩
  clear s0 s1 s2 s3 b0 b1 b2 b3 d0 d1 d2 d3
  have T0 := Two.start w (planC A0 A1 A2 A3 d.n0 c0 d.n1 c1 d.n2 c2 d.n3 c3 d.l d.p d.t) (stC E0 E1 E2 E3 s.pods.length k0 s.mnts.length k1 s.devs.length k2 s.lks.length k3 s.ph s.co s.ck s.bo s.ba s.lb s.gd s.pr) 42 46
  generalize stOkB d s = ans at *
  generalize rightB d.n0 d.n2 d.n3 d.t s = rt at *
  go_enter Tryz.func99, Tryz.ntmps99
  go_wp2_with fail
  refine (planOk_any _ d _ ((HP.out.below T0.A.K (Nat.le_refl _)).more T0.A.K.size)).mono ?_
  rintro e w1 ⟨rfl, hb1⟩
  have X := T0.step hb1
  have hC := X.A.C
  have hD := X.O.C
  clear T0 hb1
  cases h0 : planOkB d
  · have H0 := Lib.hid h0
    clear h0
    go_wp2_with fail
    go_ret
    exact ⟨ret_bool (by rw [HANS.out, H0.out]; simp), X.A.K⟩
  · have H0 := Lib.hid h0
    clear h0
    go_wp2_with fail
    refine (besidePlan_any A0 A1 A2 A3 d.n0 c0 d.n1 c1 d.n2 c2 d.n3 c3 d.l d.p d.t E0 E1 E2 E3 s.pods.length k0 s.mnts.length k1 s.devs.length k2 s.lks.length k3 s.ph s.co s.ck s.bo s.ba s.lb s.gd s.pr _).mono ?_
    rintro e w2 ⟨rfl, hb2⟩
    have X2 := X.step hb2
    clear hb2 X hC hD
    go_wp2_with fail
    refine (HR.out _ X2.A.K).mono ?_
    rintro e w3 ⟨rfl, hb3⟩
    have X3 := X2.step hb3
    clear hb3 X2
    go_wp2
    go_ret
    exact ⟨ret_bool (by rw [HANS.out, H0.out]; simp), X3.A.K⟩
end Go.Proofs.YtkefbmbjkijilaaGreatDoor
