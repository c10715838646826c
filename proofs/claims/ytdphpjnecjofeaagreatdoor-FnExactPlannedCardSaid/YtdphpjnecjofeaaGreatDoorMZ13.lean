/-
  Chapter 10 of the program: evict, changePod, busy.
-/
import Derived.Test.YtdphpjnecjofeaaGreatDoorMZ11
import Derived.Test.YtdphpjnecjofeaaGreatDoorMZ12
import Derived.Test.YtdphpjnecjofeaaGreatDoorMZ10
/- Jd -/
set_option linter.unusedVariables false
namespace Go.Proofs.YtdphpjnecjofeaaGreatDoor
open Go.RowKit

/-- The cells of a command. -/
abbrev cmdC (A0 A1 A2 A3 : Option Addr) (n0 c0 n1 c1 n2 c2 n3 c3 : Nat) (l p t : Int) (E0 E1 E2 E3 : Option Addr) (m0 k0 m1 k1 m2 k2 m3 k3 : Nat) (ph : Int) (co : Bool) (ck bo ba lb gd pr a b : Int) : Array Value :=
  #[.slice A0 n0 c0, .slice A1 n1 c1, .slice A2 n2 c2, .slice A3 n3 c3, .int .i64 l, .int .i64 p, .int .i64 t,
    .int .i64 ph, .bool co, .int .i64 ck, .int .i64 bo, .int .i64 ba, .int .i64 lb, .slice E0 m0 k0, .slice E1 m1 k1, .slice E2 m2 k2, .slice E3 m3 k3, .int .i64 gd, .int .i64 pr, .int .i64 a, .int .i64 b]
/-- A command that can be read below block B. -/
structure IsCmd (w : World) (B : Nat) (v : Value) (d : PlanD) (s : StD) (a b : Int) : Prop where
  it : ∃ A0 A1 A2 A3 c0 c1 c2 c3 E0 E1 E2 E3 k0 k1 k2 k3, v = .agg (cmdC A0 A1 A2 A3 d.n0 c0 d.n1 c1 d.n2 c2 d.n3 c3 d.l d.p d.t E0 E1 E2 E3 s.pods.length k0 s.mnts.length k1 s.devs.length k2 s.lks.length k3 s.ph s.co s.ck s.bo s.ba s.lb s.gd s.pr a b) ∧ (Sl w B 4 A0 d.n0 d.x0 ∧ Sl w B 1 A1 d.n1 d.x1 ∧ Sl w B 2 A2 d.n2 d.x2 ∧ Sl w B 1 A3 d.n3 d.x3) ∧
    SlV w B 2 E0 s.pods.length (podCs s.pods) ∧ SlV w B 2 E1 s.mnts.length (mntCs s.mnts) ∧ SlV w B 1 E2 s.devs.length (devCs s.devs) ∧ SlV w B 1 E3 s.lks.length (lkCs s.lks)
  bp : d.n0 ≤ maxLen ∧ d.n1 ≤ maxLen ∧ d.n2 ≤ maxLen ∧ d.n3 ≤ maxLen
  bs : s.pods.length ≤ maxLen ∧ s.mnts.length ≤ maxLen ∧ s.devs.length ≤ maxLen ∧ s.lks.length ≤ maxLen
theorem IsCmd.below {w w' : World} {B B' : Nat} {v : Value} {d : PlanD} {s : StD} {a b : Int} (h : IsCmd w B v d s a b) (hb : Below B' w w') (hB : B ≤ B') : IsCmd w' B v d s a b := by
  obtain ⟨⟨A0, A1, A2, A3, c0, c1, c2, c3, E0, E1, E2, E3, k0, k1, k2, k3, hv, ⟨p0, p1, p2, p3⟩, q0, q1, q2, q3⟩, hp, hs⟩ := h
  exact ⟨⟨A0, A1, A2, A3, c0, c1, c2, c3, E0, E1, E2, E3, k0, k1, k2, k3, hv, ⟨p0.below hb hB, p1.below hb hB, p2.below hb hB, p3.below hb hB⟩, q0.below hb hB, q1.below hb hB, q2.below hb hB, q3.below hb hB⟩, hp, hs⟩
theorem IsCmd.more {w : World} {B B' : Nat} {v : Value} {d : PlanD} {s : StD} {a b : Int} (h : IsCmd w B v d s a b) (hB : B ≤ B') : IsCmd w B' v d s a b := by
  obtain ⟨⟨A0, A1, A2, A3, c0, c1, c2, c3, E0, E1, E2, E3, k0, k1, k2, k3, hv, ⟨p0, p1, p2, p3⟩, q0, q1, q2, q3⟩, hp, hs⟩ := h
  exact ⟨⟨A0, A1, A2, A3, c0, c1, c2, c3, E0, E1, E2, E3, k0, k1, k2, k3, hv, ⟨p0.more hB, p1.more hB, p2.more hB, p3.more hB⟩, q0.more hB, q1.more hB, q2.more hB, q3.more hB⟩, hp, hs⟩
theorem IsCmd.go {w w' : World} {v : Value} {d : PlanD} {s : StD} {a b : Int} (h : IsCmd w w.heap.size v d s a b) (hb : Below w.heap.size w w') : IsCmd w' w'.heap.size v d s a b := (h.below hb (Nat.le_refl _)).more hb.size

/-- What is tried: records, or a reason. -/
def errV (K O P S B : Addr) : Option Why → Value
  | none => .nilIface
  | some y => whyV K O P S B y
def TryA (K O P S B : Addr) (w : World) (x : List RecD × Option Why) (e : Ending) (w' : World) : Prop :=
  ∃ v, e = .returned (.tuple #[v, errV K O P S B x.2]) ∧ OR w' w.heap.size v x.1 ∧ Below w.heap.size w w'
def no_ (y : Why) : List RecD × Option Why := ([], some y)
def one_ (k a b : Int) : List RecD × Option Why := ([⟨k, a, b⟩], none)
theorem TryA.no {K O P S B : Addr} {w w' : World} (y : Why) (h : Below w.heap.size w w') : TryA K O P S B w (no_ y) (.returned (.tuple #[.slice none 0 0, whyV K O P S B y])) w' := ⟨_, rfl, OR.nil_ _ _, h⟩
theorem TryA.one {K O P S B : Addr} {w w' : World} (k a b : Int) (h : Below w.heap.size w w') : TryA K O P S B w (one_ k a b) (.returned (.tuple #[.slice (some ⟨w'.heap.size, 0, none⟩) 1 1, .nilIface])) (w'.alloc (.cells #[.int .i64 k, .int .i64 a, .int .i64 b] 50)) :=
  ⟨_, rfl, OR.first h.size k a b, h.alloc h.size _⟩

def phaseT (s : StD) (f t : Int) : List RecD × Option Why := if s.ph = f then one_ 1 t 0 else no_ .phase
def evictT (d : PlanD) (s : StD) (a : Int) : List RecD × Option Why :=
  if inB a 0 (d.n0 - 1) = false then no_ (.missing a) else if s.ph ≠ 2 then no_ .phase else if (podAt s a.toNat).1 ≠ 0 then no_ .state else if mayEvictB d s a = false then no_ .budget else one_ 2 a 6
def shutT (d : PlanD) (s : StD) : List RecD × Option Why := if s.ph = 1 ∨ s.ph = 2 then ((shutD d s).1, none) else no_ .phase
def cancelT (s : StD) : List RecD × Option Why := if s.ph = 1 ∨ s.ph = 2 then one_ 1 0 0 else no_ .phase
def lockT (s : StD) (a : Int) : List RecD × Option Why := if inB a 0 7 = false then no_ (.missing a) else if 3 ≤ s.ph then no_ .phase else if s.lks.contains a then no_ .state else one_ 6 a 0
def unlockT (s : StD) (a : Int) : List RecD × Option Why := if inB a 0 7 = false then no_ (.missing a) else if s.lks.contains a = false then no_ .state else one_ 7 a 0
def toldT (d : PlanD) (s : StD) (f : Int → Int) (a : Int) : List RecD × Option Why := if inB a 0 (d.n0 - 1) = false then no_ (.missing a) else if f (podAt s a.toNat).1 = -1 then no_ .state else one_ 2 a (f (podAt s a.toNat).1)
def busyT (d : PlanD) (s : StD) (a b : Int) : List RecD × Option Why :=
  if inB a 0 (d.n2 - 1) = false then no_ (.missing a) else if inB b 1 5 = false then no_ .often else if 4 ≤ s.ph then no_ .phase else if (mntAt s a.toNat).1 = false ∨ (mntAt s a.toNat).2 ≠ 0 then no_ .state else one_ 3 a b
def tryD (d : PlanD) (s : StD) (k a b : Int) : List RecD × Option Why :=
  if k = 1 then phaseT s 0 1 else if k = 2 then phaseT s 1 2 else if k = 3 then evictT d s a else if k = 4 then shutT d s else if k = 5 then cancelT s else if k = 6 then lockT s a else if k = 7 then unlockT s a
  else if k = 8 then toldT d s hookD a else if k = 9 then toldT d s exitD a else if k = 10 then busyT d s a b else no_ .kind
/-- The records and the code of what is tried. -/
def codeD : List RecD × Option Why → List RecD × Int
  | (l, none) => (l, 0)
  | (_, some y) => ([], codeW y)

set_option maxRecDepth 4000 in
set_option maxHeartbeats 1000000 in
theorem cordon_any (K O P S B : Addr) (v : Value) (d : PlanD) (s : StD) (a b : Int) (w : World) (h : IsCmd w w.heap.size v d s a b) (hE : Errs w K O P S B) :
    Calls Tryz.prog 166 #[v] w (TryA K O P S B w (phaseT s 0 1)) := by
  obtain ⟨⟨A0, A1, A2, A3, c0, c1, c2, c3, E0, E1, E2, E3, k0, k1, k2, k3, rfl, ⟨p0, p1, p2, p3⟩, q0, q1, q2, q3⟩, ⟨b0, b1, b2, b3⟩, ⟨f0, f1, f2, f3⟩⟩ := h
  have X := Own.box w (cmdC A0 A1 A2 A3 d.n0 c0 d.n1 c1 d.n2 c2 d.n3 c3 d.l d.p d.t E0 E1 E2 E3 s.pods.length k0 s.mnts.length k1 s.devs.length k2 s.lks.length k3 s.ph s.co s.ck s.bo s.ba s.lb s.gd s.pr a b) 120
  have HP := Lib.hid (((show IsPlan w w.heap.size (planV A0 A1 A2 A3 d.n0 c0 d.n1 c1 d.n2 c2 d.n3 c3 d.l d.p d.t) d from ⟨⟨A0, A1, A2, A3, c0, c1, c2, c3, rfl, p0, p1, p2, p3⟩, b0, b1, b2, b3⟩).below X.K (Nat.le_refl _)).more X.K.size)
  have HS := Lib.hid (((show IsSt w w.heap.size (.agg (stC E0 E1 E2 E3 s.pods.length k0 s.mnts.length k1 s.devs.length k2 s.lks.length k3 s.ph s.co s.ck s.bo s.ba s.lb s.gd s.pr)) s from ⟨⟨E0, E1, E2, E3, k0, k1, k2, k3, rfl, q0, q1, q2, q3⟩, f0, f1, f2, f3⟩).below X.K (Nat.le_refl _)).more X.K.size)
  have Q0 := Lib.hid ((q0.below X.K (Nat.le_refl _)).more X.K.size)
  have Q1 := Lib.hid ((q1.below X.K (Nat.le_refl _)).more X.K.size)
  have Q3 := Lib.hid ((q3.below X.K (Nat.le_refl _)).more X.K.size)
  have F3 := Lib.hid f3
  unfold maxLen at b0 b1 b2 b3 f0 f1 f2 f3
  clear p0 p1 p2 p3 q0 q1 q2 q3
  have HE := Lib.hid (hE.below X.K)
  clear hE
  cases h1 : (s.ph != 0)
  · have H1 : Hid (s.ph = 0) := Lib.hid (by simpa using h1)
    go_enter Tryz.func166, Tryz.ntmps166
    go_upto_region 1 with fail
    generalize w.alloc (.cells (cmdC A0 A1 A2 A3 d.n0 c0 d.n1 c1 d.n2 c2 d.n3 c3 d.l d.p d.t E0 E1 E2 E3 s.pods.length k0 s.mnts.length k1 s.devs.length k2 s.lks.length k3 s.ph s.co s.ck s.bo s.ba s.lb s.gd s.pr a b) 120) = W at X HP HS Q0 Q1 Q3 HE ⊢
    have hC := X.C
    go_wp2
    all_goals (go_ret2; rw [phaseT, if_pos H1.out]; exact TryA.one 1 1 0 X.K)
  · have H1 : Hid (¬ s.ph = 0) := Lib.hid (by simpa using h1)
    go_enter Tryz.func166, Tryz.ntmps166
    go_upto_region 1 with fail
    generalize w.alloc (.cells (cmdC A0 A1 A2 A3 d.n0 c0 d.n1 c1 d.n2 c2 d.n3 c3 d.l d.p d.t E0 E1 E2 E3 s.pods.length k0 s.mnts.length k1 s.devs.length k2 s.lks.length k3 s.ph s.co s.ck s.bo s.ba s.lb s.gd s.pr a b) 120) = W at X HP HS Q0 Q1 Q3 HE ⊢
    have hC := X.C
    have hg := HE.out.p.1
    go_wp2_with fail
    go_quiet (fail)
    go_wp2
    all_goals (go_ret2; rw [phaseT, if_neg H1.out]; exact TryA.no .phase (below_drewN X.K _))

set_option maxRecDepth 4000 in
set_option maxHeartbeats 1000000 in
theorem drain_any (K O P S B : Addr) (v : Value) (d : PlanD) (s : StD) (a b : Int) (w : World) (h : IsCmd w w.heap.size v d s a b) (hE : Errs w K O P S B) :
    Calls Tryz.prog 167 #[v] w (TryA K O P S B w (phaseT s 1 2)) := by
  obtain ⟨⟨A0, A1, A2, A3, c0, c1, c2, c3, E0, E1, E2, E3, k0, k1, k2, k3, rfl, ⟨p0, p1, p2, p3⟩, q0, q1, q2, q3⟩, ⟨b0, b1, b2, b3⟩, ⟨f0, f1, f2, f3⟩⟩ := h
  have X := Own.box w (cmdC A0 A1 A2 A3 d.n0 c0 d.n1 c1 d.n2 c2 d.n3 c3 d.l d.p d.t E0 E1 E2 E3 s.pods.length k0 s.mnts.length k1 s.devs.length k2 s.lks.length k3 s.ph s.co s.ck s.bo s.ba s.lb s.gd s.pr a b) 120
  have HP := Lib.hid (((show IsPlan w w.heap.size (planV A0 A1 A2 A3 d.n0 c0 d.n1 c1 d.n2 c2 d.n3 c3 d.l d.p d.t) d from ⟨⟨A0, A1, A2, A3, c0, c1, c2, c3, rfl, p0, p1, p2, p3⟩, b0, b1, b2, b3⟩).below X.K (Nat.le_refl _)).more X.K.size)
  have HS := Lib.hid (((show IsSt w w.heap.size (.agg (stC E0 E1 E2 E3 s.pods.length k0 s.mnts.length k1 s.devs.length k2 s.lks.length k3 s.ph s.co s.ck s.bo s.ba s.lb s.gd s.pr)) s from ⟨⟨E0, E1, E2, E3, k0, k1, k2, k3, rfl, q0, q1, q2, q3⟩, f0, f1, f2, f3⟩).below X.K (Nat.le_refl _)).more X.K.size)
  have Q0 := Lib.hid ((q0.below X.K (Nat.le_refl _)).more X.K.size)
  have Q1 := Lib.hid ((q1.below X.K (Nat.le_refl _)).more X.K.size)
  have Q3 := Lib.hid ((q3.below X.K (Nat.le_refl _)).more X.K.size)
  have F3 := Lib.hid f3
  unfold maxLen at b0 b1 b2 b3 f0 f1 f2 f3
  clear p0 p1 p2 p3 q0 q1 q2 q3
  have HE := Lib.hid (hE.below X.K)
  clear hE
  cases h1 : (s.ph != 1)
  · have H1 : Hid (s.ph = 1) := Lib.hid (by simpa using h1)
    go_enter Tryz.func167, Tryz.ntmps167
    go_upto_region 1 with fail
    generalize w.alloc (.cells (cmdC A0 A1 A2 A3 d.n0 c0 d.n1 c1 d.n2 c2 d.n3 c3 d.l d.p d.t E0 E1 E2 E3 s.pods.length k0 s.mnts.length k1 s.devs.length k2 s.lks.length k3 s.ph s.co s.ck s.bo s.ba s.lb s.gd s.pr a b) 120) = W at X HP HS Q0 Q1 Q3 HE ⊢
    have hC := X.C
    go_wp2
    all_goals (go_ret2; rw [phaseT, if_pos H1.out]; exact TryA.one 1 2 0 X.K)
  · have H1 : Hid (¬ s.ph = 1) := Lib.hid (by simpa using h1)
    go_enter Tryz.func167, Tryz.ntmps167
    go_upto_region 1 with fail
    generalize w.alloc (.cells (cmdC A0 A1 A2 A3 d.n0 c0 d.n1 c1 d.n2 c2 d.n3 c3 d.l d.p d.t E0 E1 E2 E3 s.pods.length k0 s.mnts.length k1 s.devs.length k2 s.lks.length k3 s.ph s.co s.ck s.bo s.ba s.lb s.gd s.pr a b) 120) = W at X HP HS Q0 Q1 Q3 HE ⊢
    have hC := X.C
    have hg := HE.out.p.1
    go_wp2_with fail
    go_quiet (fail)
    go_wp2
    all_goals (go_ret2; rw [phaseT, if_neg H1.out]; exact TryA.no .phase (below_drewN X.K _))

set_option maxRecDepth 4000 in
set_option maxHeartbeats 1000000 in
theorem awaits_any (v : Value) (d : PlanD) (s : StD) (a b : Int) (w : World) (h : IsCmd w w.heap.size v d s a b) :
    Calls Tryz.prog 201 #[v] w fun e w' => e = .returned (.bool (decide (s.ph = 1 ∨ s.ph = 2))) ∧ Below w.heap.size w w' := by
  obtain ⟨⟨A0, A1, A2, A3, c0, c1, c2, c3, E0, E1, E2, E3, k0, k1, k2, k3, rfl, ⟨p0, p1, p2, p3⟩, q0, q1, q2, q3⟩, ⟨b0, b1, b2, b3⟩, ⟨f0, f1, f2, f3⟩⟩ := h
  have X := Own.box w (cmdC A0 A1 A2 A3 d.n0 c0 d.n1 c1 d.n2 c2 d.n3 c3 d.l d.p d.t E0 E1 E2 E3 s.pods.length k0 s.mnts.length k1 s.devs.length k2 s.lks.length k3 s.ph s.co s.ck s.bo s.ba s.lb s.gd s.pr a b) 120
  have HP := Lib.hid (((show IsPlan w w.heap.size (planV A0 A1 A2 A3 d.n0 c0 d.n1 c1 d.n2 c2 d.n3 c3 d.l d.p d.t) d from ⟨⟨A0, A1, A2, A3, c0, c1, c2, c3, rfl, p0, p1, p2, p3⟩, b0, b1, b2, b3⟩).below X.K (Nat.le_refl _)).more X.K.size)
  have HS := Lib.hid (((show IsSt w w.heap.size (.agg (stC E0 E1 E2 E3 s.pods.length k0 s.mnts.length k1 s.devs.length k2 s.lks.length k3 s.ph s.co s.ck s.bo s.ba s.lb s.gd s.pr)) s from ⟨⟨E0, E1, E2, E3, k0, k1, k2, k3, rfl, q0, q1, q2, q3⟩, f0, f1, f2, f3⟩).below X.K (Nat.le_refl _)).more X.K.size)
  have Q0 := Lib.hid ((q0.below X.K (Nat.le_refl _)).more X.K.size)
  have Q1 := Lib.hid ((q1.below X.K (Nat.le_refl _)).more X.K.size)
  have Q3 := Lib.hid ((q3.below X.K (Nat.le_refl _)).more X.K.size)
  have F3 := Lib.hid f3
  unfold maxLen at b0 b1 b2 b3 f0 f1 f2 f3
  clear p0 p1 p2 p3 q0 q1 q2 q3
  cases h1 : (s.ph == 1)
  · have H1 : Hid (¬ s.ph = 1) := Lib.hid (by simpa using h1)
    cases h2 : (s.ph == 2)
    · have H2 : Hid (¬ s.ph = 2) := Lib.hid (by simpa using h2)
      go_enter Tryz.func201, Tryz.ntmps201
      go_upto_region 1 with fail
      generalize w.alloc (.cells (cmdC A0 A1 A2 A3 d.n0 c0 d.n1 c1 d.n2 c2 d.n3 c3 d.l d.p d.t E0 E1 E2 E3 s.pods.length k0 s.mnts.length k1 s.devs.length k2 s.lks.length k3 s.ph s.co s.ck s.bo s.ba s.lb s.gd s.pr a b) 120) = W at X HP HS Q0 Q1 Q3 ⊢
      have hC := X.C
      go_wp2
      all_goals (go_ret; exact ⟨ret_bool (by simp [H1.out, H2.out]), X.K⟩)
    · have H2 : Hid (s.ph = 2) := Lib.hid (by simpa using h2)
      go_enter Tryz.func201, Tryz.ntmps201
      go_upto_region 1 with fail
      generalize w.alloc (.cells (cmdC A0 A1 A2 A3 d.n0 c0 d.n1 c1 d.n2 c2 d.n3 c3 d.l d.p d.t E0 E1 E2 E3 s.pods.length k0 s.mnts.length k1 s.devs.length k2 s.lks.length k3 s.ph s.co s.ck s.bo s.ba s.lb s.gd s.pr a b) 120) = W at X HP HS Q0 Q1 Q3 ⊢
      have hC := X.C
      go_wp2
      all_goals (go_ret; exact ⟨ret_bool (by simp [H2.out]), X.K⟩)
  · have H1 : Hid (s.ph = 1) := Lib.hid (by simpa using h1)
    go_enter Tryz.func201, Tryz.ntmps201
    go_upto_region 1 with fail
    generalize w.alloc (.cells (cmdC A0 A1 A2 A3 d.n0 c0 d.n1 c1 d.n2 c2 d.n3 c3 d.l d.p d.t E0 E1 E2 E3 s.pods.length k0 s.mnts.length k1 s.devs.length k2 s.lks.length k3 s.ph s.co s.ck s.bo s.ba s.lb s.gd s.pr a b) 120) = W at X HP HS Q0 Q1 Q3 ⊢
    have hC := X.C
    go_wp2
    all_goals (go_ret; exact ⟨ret_bool (by simp [H1.out]), X.K⟩)

set_option maxRecDepth 4000 in
set_option maxHeartbeats 2000000 in
theorem lock_any (K O P S B : Addr) (v : Value) (d : PlanD) (s : StD) (a b : Int) (w : World) (h : IsCmd w w.heap.size v d s a b) (hE : Errs w K O P S B) :
    Calls Tryz.prog 171 #[v] w (TryA K O P S B w (lockT s a)) := by
  obtain ⟨⟨A0, A1, A2, A3, c0, c1, c2, c3, E0, E1, E2, E3, k0, k1, k2, k3, rfl, ⟨p0, p1, p2, p3⟩, q0, q1, q2, q3⟩, ⟨b0, b1, b2, b3⟩, ⟨f0, f1, f2, f3⟩⟩ := h
  have X := Own.box w (cmdC A0 A1 A2 A3 d.n0 c0 d.n1 c1 d.n2 c2 d.n3 c3 d.l d.p d.t E0 E1 E2 E3 s.pods.length k0 s.mnts.length k1 s.devs.length k2 s.lks.length k3 s.ph s.co s.ck s.bo s.ba s.lb s.gd s.pr a b) 120
  have HP := Lib.hid (((show IsPlan w w.heap.size (planV A0 A1 A2 A3 d.n0 c0 d.n1 c1 d.n2 c2 d.n3 c3 d.l d.p d.t) d from ⟨⟨A0, A1, A2, A3, c0, c1, c2, c3, rfl, p0, p1, p2, p3⟩, b0, b1, b2, b3⟩).below X.K (Nat.le_refl _)).more X.K.size)
  have HS := Lib.hid (((show IsSt w w.heap.size (.agg (stC E0 E1 E2 E3 s.pods.length k0 s.mnts.length k1 s.devs.length k2 s.lks.length k3 s.ph s.co s.ck s.bo s.ba s.lb s.gd s.pr)) s from ⟨⟨E0, E1, E2, E3, k0, k1, k2, k3, rfl, q0, q1, q2, q3⟩, f0, f1, f2, f3⟩).below X.K (Nat.le_refl _)).more X.K.size)
  have Q0 := Lib.hid ((q0.below X.K (Nat.le_refl _)).more X.K.size)
  have Q1 := Lib.hid ((q1.below X.K (Nat.le_refl _)).more X.K.size)
  have Q3 := Lib.hid ((q3.below X.K (Nat.le_refl _)).more X.K.size)
  have F3 := Lib.hid f3
  unfold maxLen at b0 b1 b2 b3 f0 f1 f2 f3
  clear p0 p1 p2 p3 q0 q1 q2 q3
  have HE := Lib.hid (hE.below X.K)
  clear hE
  go_enter Tryz.func171, Tryz.ntmps171
  go_upto_region 1 with fail
  generalize w.alloc (.cells (cmdC A0 A1 A2 A3 d.n0 c0 d.n1 c1 d.n2 c2 d.n3 c3 d.l d.p d.t E0 E1 E2 E3 s.pods.length k0 s.mnts.length k1 s.devs.length k2 s.lks.length k3 s.ph s.co s.ck s.bo s.ba s.lb s.gd s.pr a b) 120) = W at X HP HS Q0 Q1 Q3 HE ⊢
  have hC := X.C
  go_wp2_with fail
  refine (isIndex_any _ _ _).mono ?_
  rintro e w2 ⟨rfl, rfl⟩
  rw [show ((8 : Int) - 1) = 7 from rfl]
  have hg := HE.out.p.1
  have hg1 := HE.out.s.1
  cases hin : inB a 0 7
  · have HIN := Lib.hid hin
    clear hin
    go_wp2_with fail
    go_quiet (fail)
    go_wp2
    all_goals (go_ret2; rw [lockT, if_pos HIN.out]; exact TryA.no (.missing a) (below_drewN X.K _))
  · have HIN : Hid (¬ inB a 0 7 = false) := Lib.hid (by rw [hin]; decide)
    clear hin
    by_cases h3 : 3 ≤ s.ph
    · have H3 := Lib.hid h3
      go_wp2_with fail
      go_quiet (fail)
      go_wp2
      all_goals (go_ret2; rw [lockT, if_neg HIN.out, if_pos H3.out]; exact TryA.no .phase (below_drewN X.K _))
    · have H3 := Lib.hid h3
      go_wp2_with fail
      refine (contains_any s.lks E3 k3 a _ Q3.out F3.out).mono ?_
      rintro e w3 ⟨rfl, rfl⟩
      cases hc : s.lks.contains a
      · have HC := Lib.hid hc
        clear hc
        go_wp2
        all_goals (go_ret2; rw [lockT, if_neg HIN.out, if_neg (by have := H3.out; omega), if_neg (by rw [HC.out]; decide)]; exact TryA.one 6 a 0 X.K)
      · have HC := Lib.hid hc
        clear hc
        go_wp2_with fail
        go_quiet (fail)
        go_wp2
        all_goals (go_ret2; rw [lockT, if_neg HIN.out, if_neg (by have := H3.out; omega), if_pos HC.out]; exact TryA.no .state (below_drewN X.K _))

set_option maxRecDepth 4000 in
set_option maxHeartbeats 2000000 in
theorem unlock_any (K O P S B : Addr) (v : Value) (d : PlanD) (s : StD) (a b : Int) (w : World) (h : IsCmd w w.heap.size v d s a b) (hE : Errs w K O P S B) :
    Calls Tryz.prog 172 #[v] w (TryA K O P S B w (unlockT s a)) := by
  obtain ⟨⟨A0, A1, A2, A3, c0, c1, c2, c3, E0, E1, E2, E3, k0, k1, k2, k3, rfl, ⟨p0, p1, p2, p3⟩, q0, q1, q2, q3⟩, ⟨b0, b1, b2, b3⟩, ⟨f0, f1, f2, f3⟩⟩ := h
  have X := Own.box w (cmdC A0 A1 A2 A3 d.n0 c0 d.n1 c1 d.n2 c2 d.n3 c3 d.l d.p d.t E0 E1 E2 E3 s.pods.length k0 s.mnts.length k1 s.devs.length k2 s.lks.length k3 s.ph s.co s.ck s.bo s.ba s.lb s.gd s.pr a b) 120
  have HP := Lib.hid (((show IsPlan w w.heap.size (planV A0 A1 A2 A3 d.n0 c0 d.n1 c1 d.n2 c2 d.n3 c3 d.l d.p d.t) d from ⟨⟨A0, A1, A2, A3, c0, c1, c2, c3, rfl, p0, p1, p2, p3⟩, b0, b1, b2, b3⟩).below X.K (Nat.le_refl _)).more X.K.size)
  have HS := Lib.hid (((show IsSt w w.heap.size (.agg (stC E0 E1 E2 E3 s.pods.length k0 s.mnts.length k1 s.devs.length k2 s.lks.length k3 s.ph s.co s.ck s.bo s.ba s.lb s.gd s.pr)) s from ⟨⟨E0, E1, E2, E3, k0, k1, k2, k3, rfl, q0, q1, q2, q3⟩, f0, f1, f2, f3⟩).below X.K (Nat.le_refl _)).more X.K.size)
  have Q0 := Lib.hid ((q0.below X.K (Nat.le_refl _)).more X.K.size)
  have Q1 := Lib.hid ((q1.below X.K (Nat.le_refl _)).more X.K.size)
  have Q3 := Lib.hid ((q3.below X.K (Nat.le_refl _)).more X.K.size)
  have F3 := Lib.hid f3
  unfold maxLen at b0 b1 b2 b3 f0 f1 f2 f3
  clear p0 p1 p2 p3 q0 q1 q2 q3
  have HE := Lib.hid (hE.below X.K)
  clear hE
  go_enter Tryz.func172, Tryz.ntmps172
  go_upto_region 1 with fail
  generalize w.alloc (.cells (cmdC A0 A1 A2 A3 d.n0 c0 d.n1 c1 d.n2 c2 d.n3 c3 d.l d.p d.t E0 E1 E2 E3 s.pods.length k0 s.mnts.length k1 s.devs.length k2 s.lks.length k3 s.ph s.co s.ck s.bo s.ba s.lb s.gd s.pr a b) 120) = W at X HP HS Q0 Q1 Q3 HE ⊢
  have hC := X.C
  go_wp2_with fail
  refine (isIndex_any _ _ _).mono ?_
  rintro e w2 ⟨rfl, rfl⟩
  rw [show ((8 : Int) - 1) = 7 from rfl]
  have hg := HE.out.p.1
  have hg1 := HE.out.s.1
  cases hin : inB a 0 7
  · have HIN := Lib.hid hin
    clear hin
    go_wp2_with fail
    go_quiet (fail)
    go_wp2
    all_goals (go_ret2; rw [unlockT, if_pos HIN.out]; exact TryA.no (.missing a) (below_drewN X.K _))
  · have HIN : Hid (¬ inB a 0 7 = false) := Lib.hid (by rw [hin]; decide)
    clear hin
    go_wp2_with fail
    refine (contains_any s.lks E3 k3 a _ Q3.out F3.out).mono ?_
    rintro e w3 ⟨rfl, rfl⟩
    cases hc : s.lks.contains a
    · have HC := Lib.hid hc
      clear hc
      go_wp2_with fail
      go_quiet (fail)
      go_wp2
      all_goals (go_ret2; rw [unlockT, if_neg HIN.out, if_pos HC.out]; exact TryA.no .state (below_drewN X.K _))
    · have HC := Lib.hid hc
      clear hc
      go_wp2
      all_goals (go_ret2; rw [unlockT, if_neg HIN.out, if_neg (by rw [HC.out]; decide)]; exact TryA.one 7 a 0 X.K)
end Go.Proofs.YtdphpjnecjofeaaGreatDoor
/- Jf -/
set_option linter.unusedVariables false
namespace Go.Proofs.YtdphpjnecjofeaaGreatDoor
open Go.RowKit

set_option maxRecDepth 8000 in
set_option maxHeartbeats 4000000 in
theorem evict_any (K O P S B : Addr) (v : Value) (d : PlanD) (s : StD) (a b : Int) (w : World) (h : IsCmd w w.heap.size v d s a b) (hok : StOk d s) (hE : Errs w K O P S B) :
    Calls Tryz.prog 168 #[v] w (TryA K O P S B w (evictT d s a)) := by
  have OK := Lib.hid hok
  clear hok
  obtain ⟨⟨A0, A1, A2, A3, c0, c1, c2, c3, E0, E1, E2, E3, k0, k1, k2, k3, rfl, ⟨p0, p1, p2, p3⟩, q0, q1, q2, q3⟩, ⟨b0, b1, b2, b3⟩, ⟨f0, f1, f2, f3⟩⟩ := h
  have X := Own.box w (cmdC A0 A1 A2 A3 d.n0 c0 d.n1 c1 d.n2 c2 d.n3 c3 d.l d.p d.t E0 E1 E2 E3 s.pods.length k0 s.mnts.length k1 s.devs.length k2 s.lks.length k3 s.ph s.co s.ck s.bo s.ba s.lb s.gd s.pr a b) 120
  have HP := Lib.hid (((show IsPlan w w.heap.size (planV A0 A1 A2 A3 d.n0 c0 d.n1 c1 d.n2 c2 d.n3 c3 d.l d.p d.t) d from ⟨⟨A0, A1, A2, A3, c0, c1, c2, c3, rfl, p0, p1, p2, p3⟩, b0, b1, b2, b3⟩).below X.K (Nat.le_refl _)).more X.K.size)
  have HS := Lib.hid (((show IsSt w w.heap.size (.agg (stC E0 E1 E2 E3 s.pods.length k0 s.mnts.length k1 s.devs.length k2 s.lks.length k3 s.ph s.co s.ck s.bo s.ba s.lb s.gd s.pr)) s from ⟨⟨E0, E1, E2, E3, k0, k1, k2, k3, rfl, q0, q1, q2, q3⟩, f0, f1, f2, f3⟩).below X.K (Nat.le_refl _)).more X.K.size)
  have Q0 := Lib.hid ((q0.below X.K (Nat.le_refl _)).more X.K.size)
  have Q1 := Lib.hid ((q1.below X.K (Nat.le_refl _)).more X.K.size)
  have Q3 := Lib.hid ((q3.below X.K (Nat.le_refl _)).more X.K.size)
  have F3 := Lib.hid f3
  unfold maxLen at b0 b1 b2 b3 f0 f1 f2 f3
  clear p0 p1 p2 p3 q0 q1 q2 q3
  have HE := Lib.hid (hE.below X.K)
  clear hE
  have HA : Hid ((evictT d s a) = (evictT d s a)) := Lib.hid rfl
  obtain ⟨ans, hans⟩ : ∃ ans, (evictT d s a) = ans := ⟨_, rfl⟩
  rw [hans]
  have HANS := Lib.hid hans
  clear hans HA
  go_enter Tryz.func168, Tryz.ntmps168
  go_upto_region 1 with fail
  generalize w.alloc (.cells (cmdC A0 A1 A2 A3 d.n0 c0 d.n1 c1 d.n2 c2 d.n3 c3 d.l d.p d.t E0 E1 E2 E3 s.pods.length k0 s.mnts.length k1 s.devs.length k2 s.lks.length k3 s.ph s.co s.ck s.bo s.ba s.lb s.gd s.pr a b) 120) = W at X HP HS Q0 Q1 Q3 HE ⊢
  have hC := X.C
  have hg := HE.out.p.1
  have hg1 := HE.out.s.1
  have hg2 := HE.out.b.1
  go_wp2_with fail
  refine (isIndex_any _ _ _).mono ?_
  rintro e w2 ⟨rfl, rfl⟩
  cases hin : inB a 0 (d.n0 - 1)
  · have HIN := Lib.hid hin
    clear hin
    go_wp2_with fail
    go_quiet (fail)
    go_wp2
    all_goals (go_ret2; rw [← HANS.out, evictT, if_pos HIN.out]; exact TryA.no (.missing a) (below_drewN X.K _))
  · have HIN : Hid (¬ inB a 0 (d.n0 - 1) = false) := Lib.hid (by rw [hin]; decide)
    obtain ⟨i, rfl, hi⟩ := index_nat (a := a) (n := d.n0) (by rw [hin]; decide)
    clear hin
    have hil : i < s.pods.length := by have := OK.out.np; omega
    cases hph : (s.ph != 2)
    case true =>
      have HPH : Hid (s.ph ≠ 2) := Lib.hid (by simpa using hph)
      go_wp2_with fail
      go_quiet (fail)
      go_wp2
      all_goals (go_ret2; rw [← HANS.out, evictT, if_neg HIN.out, if_pos HPH.out]; exact TryA.no .phase (below_drewN X.K _))
    case false =>
      have HPH : Hid (¬ s.ph ≠ 2) := Lib.hid (by simpa using hph)
      obtain ⟨b', off', rfl, hb', hc⟩ := Q0.out.cell hil
      have p0 := (hc 0 (by decide)).trans (podCs_at s.pods (i := i) hil).1
      rw [Nat.add_zero] at p0
      clear hc
      have HPA : Hid (podA s.pods i = podAt s (i : Int).toNat) := Lib.hid rfl
      generalize podA s.pods i = pa at p0 HPA
      cases hst : (pa.1 != 0)
      case true =>
        have HST : Hid ((podAt s (i : Int).toNat).1 ≠ 0) := Lib.hid (by rw [← HPA.out]; simpa using hst)
        go_wp2_with fail
        go_quiet (fail)
        go_wp2
        all_goals (go_ret2; rw [← HANS.out, evictT, if_neg HIN.out, if_neg HPH.out, if_pos HST.out]; exact TryA.no .state (below_drewN X.K _))
      case false =>
        have HST : Hid (¬ (podAt s (i : Int).toNat).1 ≠ 0) := Lib.hid (by rw [← HPA.out]; simpa using hst)
        go_wp2_with fail
        refine (implMayEvict_any _ _ d s i _ HP.out HS.out).mono ?_
        rintro e w3 ⟨rfl, hb3⟩
        rw [show stOkB d s = true from stOkB_iff.2 OK.out, Bool.true_and]
        have X3 := X.step hb3
        have HE3 := Lib.hid (HE.out.below hb3)
        have hC := X3.C
        have hg := HE3.out.p.1
        have hg1 := HE3.out.s.1
        have hg2 := HE3.out.b.1
        cases hme : mayEvictB d s i
        · have HME := Lib.hid hme
          clear hme
          go_wp2_with fail
          go_quiet (fail)
          go_wp2
          all_goals (go_ret2; rw [← HANS.out, evictT, if_neg HIN.out, if_neg HPH.out, if_neg HST.out, if_pos HME.out]; exact TryA.no .budget (below_drewN X3.K _))
        · have HME : Hid (¬ mayEvictB d s i = false) := Lib.hid (by rw [hme]; decide)
          clear hme
          go_wp2
          all_goals (go_ret2; rw [← HANS.out, evictT, if_neg HIN.out, if_neg HPH.out, if_neg HST.out, if_neg HME.out]; exact TryA.one 2 i 6 X3.K)

set_option maxRecDepth 8000 in
set_option maxHeartbeats 4000000 in
theorem hook_any (K O P S B : Addr) (v : Value) (d : PlanD) (s : StD) (a b : Int) (w : World) (h : IsCmd w w.heap.size v d s a b) (hok : StOk d s) (hE : Errs w K O P S B) :
    Calls Tryz.prog 173 #[v, .func (.func 174) #[] #[]] w (TryA K O P S B w (toldT d s hookD a)) := by
  have OK := Lib.hid hok
  clear hok
  obtain ⟨⟨A0, A1, A2, A3, c0, c1, c2, c3, E0, E1, E2, E3, k0, k1, k2, k3, rfl, ⟨p0, p1, p2, p3⟩, q0, q1, q2, q3⟩, ⟨b0, b1, b2, b3⟩, ⟨f0, f1, f2, f3⟩⟩ := h
  have X := Own.box w (cmdC A0 A1 A2 A3 d.n0 c0 d.n1 c1 d.n2 c2 d.n3 c3 d.l d.p d.t E0 E1 E2 E3 s.pods.length k0 s.mnts.length k1 s.devs.length k2 s.lks.length k3 s.ph s.co s.ck s.bo s.ba s.lb s.gd s.pr a b) 120
  have HP := Lib.hid (((show IsPlan w w.heap.size (planV A0 A1 A2 A3 d.n0 c0 d.n1 c1 d.n2 c2 d.n3 c3 d.l d.p d.t) d from ⟨⟨A0, A1, A2, A3, c0, c1, c2, c3, rfl, p0, p1, p2, p3⟩, b0, b1, b2, b3⟩).below X.K (Nat.le_refl _)).more X.K.size)
  have HS := Lib.hid (((show IsSt w w.heap.size (.agg (stC E0 E1 E2 E3 s.pods.length k0 s.mnts.length k1 s.devs.length k2 s.lks.length k3 s.ph s.co s.ck s.bo s.ba s.lb s.gd s.pr)) s from ⟨⟨E0, E1, E2, E3, k0, k1, k2, k3, rfl, q0, q1, q2, q3⟩, f0, f1, f2, f3⟩).below X.K (Nat.le_refl _)).more X.K.size)
  have Q0 := Lib.hid ((q0.below X.K (Nat.le_refl _)).more X.K.size)
  have Q1 := Lib.hid ((q1.below X.K (Nat.le_refl _)).more X.K.size)
  have Q3 := Lib.hid ((q3.below X.K (Nat.le_refl _)).more X.K.size)
  have F3 := Lib.hid f3
  unfold maxLen at b0 b1 b2 b3 f0 f1 f2 f3
  clear p0 p1 p2 p3 q0 q1 q2 q3
  have HE := Lib.hid (hE.below X.K)
  clear hE
  have HA : Hid ((toldT d s hookD a) = (toldT d s hookD a)) := Lib.hid rfl
  obtain ⟨ans, hans⟩ : ∃ ans, (toldT d s hookD a) = ans := ⟨_, rfl⟩
  rw [hans]
  have HANS := Lib.hid hans
  clear hans HA
  go_enter Tryz.func173, Tryz.ntmps173
  go_upto_region 1 with fail
  generalize w.alloc (.cells (cmdC A0 A1 A2 A3 d.n0 c0 d.n1 c1 d.n2 c2 d.n3 c3 d.l d.p d.t E0 E1 E2 E3 s.pods.length k0 s.mnts.length k1 s.devs.length k2 s.lks.length k3 s.ph s.co s.ck s.bo s.ba s.lb s.gd s.pr a b) 120) = W at X HP HS Q0 Q1 Q3 HE ⊢
  have hC := X.C
  have hg := HE.out.p.1
  have hg1 := HE.out.s.1
  go_wp2_with fail
  refine (isIndex_any _ _ _).mono ?_
  rintro e w2 ⟨rfl, rfl⟩
  cases hin : inB a 0 (d.n0 - 1)
  · have HIN := Lib.hid hin
    clear hin
    go_wp2_with fail
    go_quiet (fail)
    go_wp2
    all_goals (go_ret2; rw [← HANS.out, toldT, if_pos HIN.out]; exact TryA.no (.missing a) (below_drewN X.K _))
  · have HIN : Hid (¬ inB a 0 (d.n0 - 1) = false) := Lib.hid (by rw [hin]; decide)
    obtain ⟨i, rfl, hi⟩ := index_nat (a := a) (n := d.n0) (by rw [hin]; decide)
    clear hin
    have hil : i < s.pods.length := by have := OK.out.np; omega
    obtain ⟨b', off', rfl, hb', hc⟩ := Q0.out.cell hil
    have p0 := (hc 0 (by decide)).trans (podCs_at s.pods (i := i) hil).1
    rw [Nat.add_zero] at p0
    clear hc
    have HPA : Hid (podA s.pods i = podAt s (i : Int).toNat) := Lib.hid rfl
    generalize podA s.pods i = pa at p0 HPA
    go_wp2_with fail
    refine (implHook_any pa.1 _).mono ?_
    rintro e w3 ⟨rfl, rfl⟩
    have HX : Hid (hookD pa.1 = hookD (podAt s (i : Int).toNat).1) := Lib.hid (by rw [HPA.out])
    generalize hookD pa.1 = x at HX ⊢
    cases hx : (x == -1)
    · have HNX : Hid (¬ hookD (podAt s (i : Int).toNat).1 = -1) := Lib.hid (by rw [← HX.out]; simpa using hx)
      go_wp2
      all_goals (go_ret2; rw [← HANS.out, toldT, if_neg HIN.out, if_neg HNX.out, ← HX.out]; exact TryA.one 2 i x X.K)
    · have HNX : Hid (hookD (podAt s (i : Int).toNat).1 = -1) := Lib.hid (by rw [← HX.out]; simpa using hx)
      go_wp2_with fail
      go_quiet (fail)
      go_wp2
      all_goals (go_ret2; rw [← HANS.out, toldT, if_neg HIN.out, if_pos HNX.out]; exact TryA.no .state (below_drewN X.K _))

set_option maxRecDepth 8000 in
set_option maxHeartbeats 4000000 in
theorem exit_any (K O P S B : Addr) (v : Value) (d : PlanD) (s : StD) (a b : Int) (w : World) (h : IsCmd w w.heap.size v d s a b) (hok : StOk d s) (hE : Errs w K O P S B) :
    Calls Tryz.prog 173 #[v, .func (.func 175) #[] #[]] w (TryA K O P S B w (toldT d s exitD a)) := by
  have OK := Lib.hid hok
  clear hok
  obtain ⟨⟨A0, A1, A2, A3, c0, c1, c2, c3, E0, E1, E2, E3, k0, k1, k2, k3, rfl, ⟨p0, p1, p2, p3⟩, q0, q1, q2, q3⟩, ⟨b0, b1, b2, b3⟩, ⟨f0, f1, f2, f3⟩⟩ := h
  have X := Own.box w (cmdC A0 A1 A2 A3 d.n0 c0 d.n1 c1 d.n2 c2 d.n3 c3 d.l d.p d.t E0 E1 E2 E3 s.pods.length k0 s.mnts.length k1 s.devs.length k2 s.lks.length k3 s.ph s.co s.ck s.bo s.ba s.lb s.gd s.pr a b) 120
  have HP := Lib.hid (((show IsPlan w w.heap.size (planV A0 A1 A2 A3 d.n0 c0 d.n1 c1 d.n2 c2 d.n3 c3 d.l d.p d.t) d from ⟨⟨A0, A1, A2, A3, c0, c1, c2, c3, rfl, p0, p1, p2, p3⟩, b0, b1, b2, b3⟩).below X.K (Nat.le_refl _)).more X.K.size)
  have HS := Lib.hid (((show IsSt w w.heap.size (.agg (stC E0 E1 E2 E3 s.pods.length k0 s.mnts.length k1 s.devs.length k2 s.lks.length k3 s.ph s.co s.ck s.bo s.ba s.lb s.gd s.pr)) s from ⟨⟨E0, E1, E2, E3, k0, k1, k2, k3, rfl, q0, q1, q2, q3⟩, f0, f1, f2, f3⟩).below X.K (Nat.le_refl _)).more X.K.size)
  have Q0 := Lib.hid ((q0.below X.K (Nat.le_refl _)).more X.K.size)
  have Q1 := Lib.hid ((q1.below X.K (Nat.le_refl _)).more X.K.size)
  have Q3 := Lib.hid ((q3.below X.K (Nat.le_refl _)).more X.K.size)
  have F3 := Lib.hid f3
  unfold maxLen at b0 b1 b2 b3 f0 f1 f2 f3
  clear p0 p1 p2 p3 q0 q1 q2 q3
  have HE := Lib.hid (hE.below X.K)
  clear hE
  have HA : Hid ((toldT d s exitD a) = (toldT d s exitD a)) := Lib.hid rfl
  obtain ⟨ans, hans⟩ : ∃ ans, (toldT d s exitD a) = ans := ⟨_, rfl⟩
  rw [hans]
  have HANS := Lib.hid hans
  clear hans HA
  go_enter Tryz.func173, Tryz.ntmps173
  go_upto_region 1 with fail
  generalize w.alloc (.cells (cmdC A0 A1 A2 A3 d.n0 c0 d.n1 c1 d.n2 c2 d.n3 c3 d.l d.p d.t E0 E1 E2 E3 s.pods.length k0 s.mnts.length k1 s.devs.length k2 s.lks.length k3 s.ph s.co s.ck s.bo s.ba s.lb s.gd s.pr a b) 120) = W at X HP HS Q0 Q1 Q3 HE ⊢
  have hC := X.C
  have hg := HE.out.p.1
  have hg1 := HE.out.s.1
  go_wp2_with fail
  refine (isIndex_any _ _ _).mono ?_
  rintro e w2 ⟨rfl, rfl⟩
  cases hin : inB a 0 (d.n0 - 1)
  · have HIN := Lib.hid hin
    clear hin
    go_wp2_with fail
    go_quiet (fail)
    go_wp2
    all_goals (go_ret2; rw [← HANS.out, toldT, if_pos HIN.out]; exact TryA.no (.missing a) (below_drewN X.K _))
  · have HIN : Hid (¬ inB a 0 (d.n0 - 1) = false) := Lib.hid (by rw [hin]; decide)
    obtain ⟨i, rfl, hi⟩ := index_nat (a := a) (n := d.n0) (by rw [hin]; decide)
    clear hin
    have hil : i < s.pods.length := by have := OK.out.np; omega
    obtain ⟨b', off', rfl, hb', hc⟩ := Q0.out.cell hil
    have p0 := (hc 0 (by decide)).trans (podCs_at s.pods (i := i) hil).1
    rw [Nat.add_zero] at p0
    clear hc
    have HPA : Hid (podA s.pods i = podAt s (i : Int).toNat) := Lib.hid rfl
    generalize podA s.pods i = pa at p0 HPA
    go_wp2_with fail
    refine (implExit_any pa.1 _).mono ?_
    rintro e w3 ⟨rfl, rfl⟩
    have HX : Hid (exitD pa.1 = exitD (podAt s (i : Int).toNat).1) := Lib.hid (by rw [HPA.out])
    generalize exitD pa.1 = x at HX ⊢
    cases hx : (x == -1)
    · have HNX : Hid (¬ exitD (podAt s (i : Int).toNat).1 = -1) := Lib.hid (by rw [← HX.out]; simpa using hx)
      go_wp2
      all_goals (go_ret2; rw [← HANS.out, toldT, if_neg HIN.out, if_neg HNX.out, ← HX.out]; exact TryA.one 2 i x X.K)
    · have HNX : Hid (exitD (podAt s (i : Int).toNat).1 = -1) := Lib.hid (by rw [← HX.out]; simpa using hx)
      go_wp2_with fail
      go_quiet (fail)
      go_wp2
      all_goals (go_ret2; rw [← HANS.out, toldT, if_neg HIN.out, if_pos HNX.out]; exact TryA.no .state (below_drewN X.K _))

set_option maxRecDepth 8000 in
set_option maxHeartbeats 4000000 in
theorem busy_any (K O P S B : Addr) (v : Value) (d : PlanD) (s : StD) (a b : Int) (w : World) (h : IsCmd w w.heap.size v d s a b) (hok : StOk d s) (hE : Errs w K O P S B) :
    Calls Tryz.prog 176 #[v] w (TryA K O P S B w (busyT d s a b)) := by
  have OK := Lib.hid hok
  clear hok
  obtain ⟨⟨A0, A1, A2, A3, c0, c1, c2, c3, E0, E1, E2, E3, k0, k1, k2, k3, rfl, ⟨p0, p1, p2, p3⟩, q0, q1, q2, q3⟩, ⟨b0, b1, b2, b3⟩, ⟨f0, f1, f2, f3⟩⟩ := h
  have X := Own.box w (cmdC A0 A1 A2 A3 d.n0 c0 d.n1 c1 d.n2 c2 d.n3 c3 d.l d.p d.t E0 E1 E2 E3 s.pods.length k0 s.mnts.length k1 s.devs.length k2 s.lks.length k3 s.ph s.co s.ck s.bo s.ba s.lb s.gd s.pr a b) 120
  have HP := Lib.hid (((show IsPlan w w.heap.size (planV A0 A1 A2 A3 d.n0 c0 d.n1 c1 d.n2 c2 d.n3 c3 d.l d.p d.t) d from ⟨⟨A0, A1, A2, A3, c0, c1, c2, c3, rfl, p0, p1, p2, p3⟩, b0, b1, b2, b3⟩).below X.K (Nat.le_refl _)).more X.K.size)
  have HS := Lib.hid (((show IsSt w w.heap.size (.agg (stC E0 E1 E2 E3 s.pods.length k0 s.mnts.length k1 s.devs.length k2 s.lks.length k3 s.ph s.co s.ck s.bo s.ba s.lb s.gd s.pr)) s from ⟨⟨E0, E1, E2, E3, k0, k1, k2, k3, rfl, q0, q1, q2, q3⟩, f0, f1, f2, f3⟩).below X.K (Nat.le_refl _)).more X.K.size)
  have Q0 := Lib.hid ((q0.below X.K (Nat.le_refl _)).more X.K.size)
  have Q1 := Lib.hid ((q1.below X.K (Nat.le_refl _)).more X.K.size)
  have Q3 := Lib.hid ((q3.below X.K (Nat.le_refl _)).more X.K.size)
  have F3 := Lib.hid f3
  unfold maxLen at b0 b1 b2 b3 f0 f1 f2 f3
  clear p0 p1 p2 p3 q0 q1 q2 q3
  have HE := Lib.hid (hE.below X.K)
  clear hE
  have HA : Hid ((busyT d s a b) = (busyT d s a b)) := Lib.hid rfl
  obtain ⟨ans, hans⟩ : ∃ ans, (busyT d s a b) = ans := ⟨_, rfl⟩
  rw [hans]
  have HANS := Lib.hid hans
  clear hans HA
  go_enter Tryz.func176, Tryz.ntmps176
  go_upto_region 1 with fail
  generalize w.alloc (.cells (cmdC A0 A1 A2 A3 d.n0 c0 d.n1 c1 d.n2 c2 d.n3 c3 d.l d.p d.t E0 E1 E2 E3 s.pods.length k0 s.mnts.length k1 s.devs.length k2 s.lks.length k3 s.ph s.co s.ck s.bo s.ba s.lb s.gd s.pr a b) 120) = W at X HP HS Q0 Q1 Q3 HE ⊢
  have hC := X.C
  have hg := HE.out.p.1
  have hg1 := HE.out.s.1
  have hg2 := HE.out.o.1
  go_wp2_with fail
  refine (isIndex_any _ _ _).mono ?_
  rintro e w2 ⟨rfl, rfl⟩
  cases hin : inB a 0 (d.n2 - 1)
  · have HIN := Lib.hid hin
    clear hin
    go_wp2_with fail
    go_quiet (fail)
    go_wp2
    all_goals (go_ret2; rw [← HANS.out, busyT, if_pos HIN.out]; exact TryA.no (.missing a) (below_drewN X.K _))
  · have HIN : Hid (¬ inB a 0 (d.n2 - 1) = false) := Lib.hid (by rw [hin]; decide)
    obtain ⟨i, rfl, hi⟩ := index_nat (a := a) (n := d.n2) (by rw [hin]; decide)
    clear hin
    have hil : i < s.mnts.length := by have := OK.out.nm; omega
    go_wp2_with fail
    refine (within_any _ _ _ _).mono ?_
    rintro e w2 ⟨rfl, rfl⟩
    cases hb1 : inB b 1 5
    · have HB1 := Lib.hid hb1
      clear hb1
      go_wp2_with fail
      go_quiet (fail)
      go_wp2
      all_goals (go_ret2; rw [← HANS.out, busyT, if_neg HIN.out, if_pos HB1.out]; exact TryA.no .often (below_drewN X.K _))
    · have HB1 : Hid (¬ inB b 1 5 = false) := Lib.hid (by rw [hb1]; decide)
      clear hb1
      by_cases h4 : 4 ≤ s.ph
      · have H4 := Lib.hid h4
        go_wp2_with fail
        go_quiet (fail)
        go_wp2
        all_goals (go_ret2; rw [← HANS.out, busyT, if_neg HIN.out, if_neg HB1.out, if_pos H4.out]; exact TryA.no .phase (below_drewN X.K _))
      · have H4 : Hid (¬ 4 ≤ s.ph) := Lib.hid (by omega)
        obtain ⟨b', off', rfl, hb', hc⟩ := Q1.out.cell hil
        have p0 := (hc 0 (by decide)).trans (mntCs_at s.mnts (i := i) hil).1
        have p1 := (hc 1 (by decide)).trans (mntCs_at s.mnts (i := i) hil).2
        rw [Nat.add_zero] at p0
        clear hc
        have HPA : Hid (mntA s.mnts i = mntAt s (i : Int).toNat) := Lib.hid rfl
        generalize mntA s.mnts i = pa at p0 p1 HPA
        obtain ⟨held, bs⟩ := pa
        dsimp only at p0 p1
        cases held
        · have HH : Hid ((mntAt s (i : Int).toNat).1 = false ∨ (mntAt s (i : Int).toNat).2 ≠ 0) := Lib.hid (by rw [← HPA.out]; exact .inl rfl)
          go_wp2_with fail
          go_quiet (fail)
          go_wp2
          all_goals (go_ret2; rw [← HANS.out, busyT, if_neg HIN.out, if_neg HB1.out, if_neg (show ¬ 4 ≤ s.ph by have := H4.out; omega), if_pos HH.out]; exact TryA.no .state (below_drewN X.K _))
        · cases hbs : (bs != 0)
          · have HH : Hid (¬ ((mntAt s (i : Int).toNat).1 = false ∨ (mntAt s (i : Int).toNat).2 ≠ 0)) := Lib.hid (by rw [← HPA.out]; simpa using hbs)
            go_wp2
            all_goals (go_ret2; rw [← HANS.out, busyT, if_neg HIN.out, if_neg HB1.out, if_neg (show ¬ 4 ≤ s.ph by have := H4.out; omega), if_neg HH.out]; exact TryA.one 3 i b X.K)
          · have HH : Hid ((mntAt s (i : Int).toNat).1 = false ∨ (mntAt s (i : Int).toNat).2 ≠ 0) := Lib.hid (by rw [← HPA.out]; exact .inr (by simpa using hbs))
            go_wp2_with fail
            go_quiet (fail)
            go_wp2
            all_goals (go_ret2; rw [← HANS.out, busyT, if_neg HIN.out, if_neg HB1.out, if_neg (show ¬ 4 ≤ s.ph by have := H4.out; omega), if_pos HH.out]; exact TryA.no .state (below_drewN X.K _))
end Go.Proofs.YtdphpjnecjofeaaGreatDoor
