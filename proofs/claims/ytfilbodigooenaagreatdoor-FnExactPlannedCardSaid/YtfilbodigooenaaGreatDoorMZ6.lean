/-
  Bytes and records where they lie: read, and the call's own.
-/
import Derived.Test.YtfilbodigooenaaGreatDoorMZ5
import Derived.Deep.RegionHeld3
import Derived.Test.YtfilbodigooenaaGreatDoorMZ0
import Derived.Test.YtfilbodigooenaaGreatDoorMZ3
import Derived.Test.YtfilbodigooenaaGreatDoorMZ4
import Derived.Deep.DeepCutAuto
import Derived.Laws.Tables
import Derived.Laws.CopyOwn
import Derived.Laws.Rows
import Derived.Test.YtfilbodigooenaaGreatDoorMZ2
/- Ul -/
set_option linter.unusedVariables false
namespace Go.Proofs.YtfilbodigooenaaGreatDoor
open Go.RowKit

theorem IsPlan.go {w w' : World} {v : Value} {d : PlanD} (h : IsPlan w w.heap.size v d) (hb : Below w.heap.size w w') : IsPlan w' w'.heap.size v d := (h.below hb (Nat.le_refl _)).more hb.size

end Go.Proofs.YtfilbodigooenaaGreatDoor
/- Ug -/
set_option linter.unusedVariables false
namespace Go.Proofs.YtfilbodigooenaaGreatDoor
open Go.ChangeShapes Go.WideShapes Go.ChangeAt Go.RowKit Go.Deep

section
variable {H : Type} {enc : TypeId × Value → H} {P : Program} {w : World} {spare : Nat → Bool} {held : Bool}
end

end Go.Proofs.YtfilbodigooenaaGreatDoor
/- Vd -/
set_option linter.unusedVariables false
namespace Go.Proofs.YtfilbodigooenaaGreatDoor
open Go.RowKit

theorem slv_of_row {w : World} {B k n g : Nat} {A : Option Addr} {xs : List Value} (hA : 0 < n → A = some ⟨g, 0, none⟩) (hz : 0 < n → g < B) (R : RowV w g xs) (hl : xs.length = n * k) : SlV w B k A n xs :=
  ⟨hl, fun hn => ⟨g, 0, hA hn, hz hn, fun j hj => by rw [Nat.zero_add]; exact (R j (by omega)).1⟩⟩
theorem Rows4.is {w : World} {v : Value} {s : StD} {g0 g1 g2 g3 : Nat} (h : Rows4 w v s g0 g1 g2 g3) (hf : StFits s 1048576) : IsSt w w.heap.size v s := by
  obtain ⟨⟨A0, A1, A2, A3, c0, c1, c2, c3, hv, a0, a1, a2, a3⟩, z0, R0, z1, R1, z2, R2, z3, R3, -, -, -, -, -, -⟩ := h
  obtain ⟨f0, f1, f2, f3⟩ := hf
  have hm : 1048576 ≤ maxLen := by unfold maxLen; decide
  exact ⟨⟨A0, A1, A2, A3, c0, c1, c2, c3, hv, slv_of_row a0 z0 R0 (podCs_len _), slv_of_row a1 z1 R1 (mntCs_len _), slv_of_row a2 z2 R2 (devCs_len _), slv_of_row a3 z3 R3 (lkCs_len _)⟩, by omega, by omega, by omega, by omega⟩
theorem Rows4.keeps {S : Nat → Prop} {w w' : World} {v : Value} {s : StD} {g0 g1 g2 g3 : Nat} (h : Rows4 w v s g0 g1 g2 g3) (k : Keeps S w w') (n0 : 0 < s.pods.length → ¬ S g0) (n1 : 0 < s.mnts.length → ¬ S g1) (n2 : 0 < s.devs.length → ¬ S g2) (n3 : 0 < s.lks.length → ¬ S g3) : Rows4 w' v s g0 g1 g2 g3 := by
  obtain ⟨hv, z0, R0, z1, R1, z2, R2, z3, R3, d01, d02, d03, d12, d13, d23⟩ := h
  have e0 : (podCs s.pods).length = s.pods.length * 2 := podCs_len _
  have e1 : (mntCs s.mnts).length = s.mnts.length * 2 := mntCs_len _
  have e2 : (devCs s.devs).length = s.devs.length * 1 := devCs_len _
  have e3 : (lkCs s.lks).length = s.lks.length * 1 := lkCs_len _
  exact ⟨hv, fun h => Nat.lt_of_lt_of_le (z0 h) k.size, fun j hj => RowV.keeps R0 k (z0 (by omega)) (n0 (by omega)) j hj, fun h => Nat.lt_of_lt_of_le (z1 h) k.size, fun j hj => RowV.keeps R1 k (z1 (by omega)) (n1 (by omega)) j hj,
    fun h => Nat.lt_of_lt_of_le (z2 h) k.size, fun j hj => RowV.keeps R2 k (z2 (by omega)) (n2 (by omega)) j hj, fun h => Nat.lt_of_lt_of_le (z3 h) k.size, fun j hj => RowV.keeps R3 k (z3 (by omega)) (n3 (by omega)) j hj, d01, d02, d03, d12, d13, d23⟩
/-- A state whose lists, where they hold something, lie in blocks of their own from B to E. -/
structure RowsIn (w : World) (v : Value) (s : StD) (B E : Nat) : Prop where
  it : ∃ g0 g1 g2 g3, Rows4 w v s g0 g1 g2 g3 ∧ (B ≤ g0 ∧ B ≤ g1 ∧ B ≤ g2 ∧ B ≤ g3) ∧ (0 < s.pods.length → g0 < E) ∧ (0 < s.mnts.length → g1 < E) ∧ (0 < s.devs.length → g2 < E) ∧ (0 < s.lks.length → g3 < E)
theorem RowsIn.of {w : World} {B : Nat} {v : Value} {s : StD} (h : OwnSt w B v s) (hB : B ≤ w.heap.size) : RowsIn w v s B w.heap.size := by
  obtain ⟨g0, g1, g2, g3, R, b0, b1, b2, b3⟩ := h.rows hB
  exact ⟨g0, g1, g2, g3, R, ⟨b0, b1, b2, b3⟩, R.z0, R.z1, R.z2, R.z3⟩
theorem RowsIn.val {w : World} {B E : Nat} {v : Value} {s : StD} (h : RowsIn w v s B E) : ∃ A0 A1 A2 A3 c0 c1 c2 c3, v = .agg (stC A0 A1 A2 A3 s.pods.length c0 s.mnts.length c1 s.devs.length c2 s.lks.length c3 s.ph s.co s.ck s.bo s.ba s.lb s.gd s.pr) := by
  obtain ⟨g0, g1, g2, g3, R, -⟩ := h.it
  obtain ⟨A0, A1, A2, A3, c0, c1, c2, c3, hv, -⟩ := R.val
  exact ⟨A0, A1, A2, A3, c0, c1, c2, c3, hv⟩
theorem RowsIn.go {w w' : World} {B E : Nat} {v : Value} {s : StD} (h : RowsIn w v s B E) (hb : Below w.heap.size w w') : RowsIn w' v s B E := by
  obtain ⟨g0, g1, g2, g3, R, bs, es⟩ := h.it
  exact ⟨g0, g1, g2, g3, R.go hb, bs, es⟩
theorem RowsIn.is {w : World} {B E : Nat} {v : Value} {s : StD} (h : RowsIn w v s B E) (hf : StFits s 1048576) : IsSt w w.heap.size v s := by
  obtain ⟨g0, g1, g2, g3, R, -⟩ := h.it
  exact R.is hf
theorem RowsIn.keeps {S : Nat → Prop} {w w' : World} {B E : Nat} {v : Value} {s : StD} (h : RowsIn w v s B E) (k : Keeps S w w') (hS : ∀ b, B ≤ b → b < E → ¬ S b) : RowsIn w' v s B E := by
  obtain ⟨g0, g1, g2, g3, R, ⟨b0, b1, b2, b3⟩, e0, e1, e2, e3⟩ := h.it
  exact ⟨g0, g1, g2, g3, R.keeps k (fun h => hS _ b0 (e0 h)) (fun h => hS _ b1 (e1 h)) (fun h => hS _ b2 (e2 h)) (fun h => hS _ b3 (e3 h)), ⟨b0, b1, b2, b3⟩, e0, e1, e2, e3⟩
theorem if_pick {n g m : Nat} : ∃ h, (0 < n → h = g) ∧ (¬ 0 < n → h = m) := by
  by_cases hn : 0 < n
  · exact ⟨g, fun _ => rfl, fun h => absurd hn h⟩
  · exact ⟨m, fun h => absurd h hn, fun _ => rfl⟩
theorem row_pick {w : World} {n g h : Nat} {xs : List Value} {k : Nat} (R : RowV w g xs) (e : 0 < n → h = g) (hl : xs.length = n * k) : RowV w h xs := by
  intro j hj
  have hn : 0 < n := Nat.pos_of_ne_zero fun h0 => by rw [h0, Nat.zero_mul] at hl; omega
  rw [e hn]
  exact R j hj
/-- The same rows, those that hold nothing named by numbers behind the heap. -/
theorem RowsIn.apart {w : World} {B E : Nat} {v : Value} {s : StD} (h : RowsIn w v s B E) : ∃ g0 g1 g2 g3, Rows4 w v s g0 g1 g2 g3 ∧ (B ≤ g0 ∧ B ≤ g1 ∧ B ≤ g2 ∧ B ≤ g3) ∧ ((0 < s.pods.length → g0 < E) ∧ (0 < s.mnts.length → g1 < E) ∧ (0 < s.devs.length → g2 < E) ∧ (0 < s.lks.length → g3 < E)) ∧
    ∀ b, b < w.heap.size → (b = g0 ∨ b = g1 ∨ b = g2 ∨ b = g3) → B ≤ b ∧ b < E := by
  obtain ⟨g0, g1, g2, g3, R, ⟨b0, b1, b2, b3⟩, e0, e1, e2, e3⟩ := h.it
  obtain ⟨⟨A0, A1, A2, A3, c0, c1, c2, c3, hv, a0, a1, a2, a3⟩, z0, R0, z1, R1, z2, R2, z3, R3, d01, d02, d03, d12, d13, d23⟩ := R
  obtain ⟨h0, p0, q0⟩ := if_pick (n := s.pods.length) (g := g0) (m := w.heap.size + B)
  obtain ⟨h1, p1, q1⟩ := if_pick (n := s.mnts.length) (g := g1) (m := w.heap.size + B + 1)
  obtain ⟨h2, p2, q2⟩ := if_pick (n := s.devs.length) (g := g2) (m := w.heap.size + B + 2)
  obtain ⟨h3, p3, q3⟩ := if_pick (n := s.lks.length) (g := g3) (m := w.heap.size + B + 3)
  have k0 : B ≤ h0 := by by_cases hn : 0 < s.pods.length <;> simp [p0, q0, hn] <;> omega
  have k1 : B ≤ h1 := by by_cases hn : 0 < s.mnts.length <;> simp [p1, q1, hn] <;> omega
  have k2 : B ≤ h2 := by by_cases hn : 0 < s.devs.length <;> simp [p2, q2, hn] <;> omega
  have k3 : B ≤ h3 := by by_cases hn : 0 < s.lks.length <;> simp [p3, q3, hn] <;> omega
  refine ⟨h0, h1, h2, h3, ⟨⟨A0, A1, A2, A3, c0, c1, c2, c3, hv, fun h => by rw [p0 h]; exact a0 h, fun h => by rw [p1 h]; exact a1 h, fun h => by rw [p2 h]; exact a2 h, fun h => by rw [p3 h]; exact a3 h⟩,
    fun h => by rw [p0 h]; exact z0 h, row_pick R0 p0 (podCs_len _), fun h => by rw [p1 h]; exact z1 h, row_pick R1 p1 (mntCs_len _), fun h => by rw [p2 h]; exact z2 h, row_pick R2 p2 (devCs_len _), fun h => by rw [p3 h]; exact z3 h, row_pick R3 p3 (lkCs_len _), ?_, ?_, ?_, ?_, ?_, ?_⟩,
    ⟨k0, k1, k2, k3⟩, ⟨fun h => by rw [p0 h]; exact e0 h, fun h => by rw [p1 h]; exact e1 h, fun h => by rw [p2 h]; exact e2 h, fun h => by rw [p3 h]; exact e3 h⟩, ?_⟩
  all_goals
    by_cases n0 : 0 < s.pods.length <;> by_cases n1 : 0 < s.mnts.length <;> by_cases n2 : 0 < s.devs.length <;> by_cases n3 : 0 < s.lks.length <;>
      simp only [n0, n1, n2, n3, true_implies, not_true_eq_false, not_false_eq_true, false_implies] at p0 q0 p1 q1 p2 q2 p3 q3 z0 z1 z2 z3 e0 e1 e2 e3 <;> (try intro b hb hor) <;> omega
theorem Keeps.into {S S' : Nat → Prop} {w w' : World} (k : Keeps S w w') (h : ∀ b, b < w.heap.size → S b → S' b) : Keeps S' w w' := ⟨k.os, k.tape, k.output, k.size, fun b hb hn => k.block b hb fun hs => hn (h b hb hs)⟩
end Go.Proofs.YtfilbodigooenaaGreatDoor
/- Vx -/
set_option linter.unusedVariables false
namespace Go.Proofs.YtfilbodigooenaaGreatDoor
open Go.RowKit

/-- A state beside its plan: its cells. -/
abbrev besC (A0 A1 A2 A3 : Option Addr) (n0 c0 n1 c1 n2 c2 n3 c3 : Nat) (l p t : Int) (E0 E1 E2 E3 : Option Addr) (m0 k0 m1 k1 m2 k2 m3 k3 : Nat) (ph : Int) (co : Bool) (ck bo ba lb gd pr : Int) : Array Value :=
  #[.int .i64 ph, .int .i64 ck, .int .i64 bo, .int .i64 ba, .int .i64 lb, .int .i64 gd, .int .i64 pr,
    .slice A0 n0 c0, .slice A1 n1 c1, .slice A2 n2 c2, .slice A3 n3 c3, .int .i64 l, .int .i64 p, .int .i64 t, .bool co,
    .slice E0 m0 k0, .slice E1 m1 k1, .slice E2 m2 k2, .slice E3 m3 k3]
abbrev cntV (ph ck bo ba lb gd pr : Int) : Value := .agg #[.int .i64 ph, .int .i64 ck, .int .i64 bo, .int .i64 ba, .int .i64 lb, .int .i64 gd, .int .i64 pr]

section
variable (A0 A1 A2 A3 : Option Addr) (n0 c0 n1 c1 n2 c2 n3 c3 : Nat) (l p t : Int) (E0 E1 E2 E3 : Option Addr) (m0 k0 m1 k1 m2 k2 m3 k3 : Nat) (ph : Int) (co : Bool) (ck bo ba lb gd pr : Int)
set_option maxHeartbeats 4000000 in
theorem besidePlan_any (w : World) :
    Calls Tryz.prog 97 #[planV A0 A1 A2 A3 n0 c0 n1 c1 n2 c2 n3 c3 l p t, .agg (stC E0 E1 E2 E3 m0 k0 m1 k1 m2 k2 m3 k3 ph co ck bo ba lb gd pr)] w fun e w' =>
      e = .returned (.agg (besC A0 A1 A2 A3 n0 c0 n1 c1 n2 c2 n3 c3 l p t E0 E1 E2 E3 m0 k0 m1 k1 m2 k2 m3 k3 ph co ck bo ba lb gd pr)) ∧ Below w.heap.size w w' := by
  have T0 := Two.start w (planC A0 A1 A2 A3 n0 c0 n1 c1 n2 c2 n3 c3 l p t) (stC E0 E1 E2 E3 m0 k0 m1 k1 m2 k2 m3 k3 ph co ck bo ba lb gd pr) 44 49
  go_enter Tryz.func97, Tryz.ntmps97
  go_upto_region 1 with fail
  have X := Own.box2 T0.O.K (besC none none none none 0 0 0 0 0 0 0 0 0 0 0 none none none none 0 0 0 0 0 0 0 0 0 false 0 0 0 0 0 0) 155
  have T := T0.step ((Below.refl _ _).alloc (Nat.le_refl _) (.cells (besC none none none none 0 0 0 0 0 0 0 0 0 0 0 none none none none 0 0 0 0 0 0 0 0 0 false 0 0 0 0 0 0) 155))
  have hH := heap_alloc_new ((w.alloc (.cells (planC A0 A1 A2 A3 n0 c0 n1 c1 n2 c2 n3 c3 l p t) 44)).alloc (.cells (stC E0 E1 E2 E3 m0 k0 m1 k1 m2 k2 m3 k3 ph co ck bo ba lb gd pr) 49)) (.cells (besC none none none none 0 0 0 0 0 0 0 0 0 0 0 none none none none 0 0 0 0 0 0 0 0 0 false 0 0 0 0 0 0) 155)
  clear T0
  have hC := T.A.C
  have hD := T.O.C
  have K := X.K
  clear T X
  simp only [heap_size_alloc_] at *
  generalize hW : ((w.alloc _).alloc _).alloc _ = W at *
  clear hW
  have hi : (Tryz.prog.info? 155).map (·.size) = some (besC A0 A1 A2 A3 n0 c0 n1 c1 n2 c2 n3 c3 l p t E0 E1 E2 E3 m0 k0 m1 k1 m2 k2 m3 k3 ph co ck bo ba lb gd pr).size := by kernel_rfl
  have h1 : (besC A0 A1 A2 A3 n0 c0 n1 c1 n2 c2 n3 c3 l p t E0 E1 E2 E3 m0 k0 m1 k1 m2 k2 m3 k3 ph co ck bo ba lb gd pr).all (·.oneCell') = true := by simp [Value.oneCell']
  go_wp2_with (refine wpList_store_row rfl _ _ _ rfl (w.heap.size + 1 + 1) (besC A0 A1 A2 A3 n0 c0 n1 c1 n2 c2 n3 c3 l p t E0 E1 E2 E3 m0 k0 m1 k1 m2 k2 m3 k3 ph co ck bo ba lb gd pr) rfl rfl _ _ hH hi rfl h1 ?_)
  exact bodyPost_ret (v := .agg (besC A0 A1 A2 A3 n0 c0 n1 c1 n2 c2 n3 c3 l p t E0 E1 E2 E3 m0 k0 m1 k1 m2 k2 m3 k3 ph co ck bo ba lb gd pr)) (results_cell_row Tryz.results97 _ _ _ _ _ _ _ rfl (setRow_heap W _ _ _ _ _ hH) Tryz.underlying155 rfl hi) rfl ⟨rfl, below_setRow K (by omega) _⟩
end
end Go.Proofs.YtfilbodigooenaaGreatDoor
/- Va -/
set_option linter.unusedVariables false
namespace Go.Proofs.YtfilbodigooenaaGreatDoor
open Go.RowKit

section
variable (A0 A1 A2 A3 : Option Addr) (n0 c0 n1 c1 n2 c2 n3 c3 : Nat) (l p t : Int) (E0 E1 E2 E3 : Option Addr) (m0 k0 m1 k1 m2 k2 m3 k3 : Nat) (ph : Int) (co : Bool) (ck bo ba lb gd pr : Int)
set_option maxHeartbeats 1000000 in
theorem countsRight_any (w : World) (b0 : n0 ≤ maxLen) (b2 : n2 ≤ maxLen) (b3 : n3 ≤ maxLen) (d0 : m0 ≤ maxLen) (d1 : m1 ≤ maxLen) (d2 : m2 ≤ maxLen) :
    Calls Tryz.prog 127 #[.agg (besC A0 A1 A2 A3 n0 c0 n1 c1 n2 c2 n3 c3 l p t E0 E1 E2 E3 m0 k0 m1 k1 m2 k2 m3 k3 ph co ck bo ba lb gd pr)] w fun e w' =>
      e = .returned (.bool (decide (m0 = n0) && decide (m1 = n2) && decide (m2 = n3))) ∧ Below w.heap.size w w' := by
  unfold maxLen at b0 b2 b3 d0 d1 d2
  by_cases e0 : m0 = n0
  · by_cases e1 : m1 = n2
    · by_cases e2 : m2 = n3
      · subst e0 e1 e2
        go_enter Tryz.func127, Tryz.ntmps127
        go_wp2
        all_goals (go_ret; refine ⟨ret_bool (by simp), (Below.refl _ _).alloc (Nat.le_refl _) _⟩)
      · subst e0 e1
        have e2' : ¬ (m2 : Int) = n3 := by omega
        go_enter Tryz.func127, Tryz.ntmps127
        go_wp2
        all_goals (go_ret; refine ⟨ret_bool (by simp [e2, e2']), (Below.refl _ _).alloc (Nat.le_refl _) _⟩)
    · subst e0
      have e1' : ¬ (m1 : Int) = n2 := by omega
      go_enter Tryz.func127, Tryz.ntmps127
      go_wp2
      all_goals (go_ret; refine ⟨ret_bool (by simp [e1]), (Below.refl _ _).alloc (Nat.le_refl _) _⟩)
  · have e0' : ¬ (m0 : Int) = n0 := by omega
    go_enter Tryz.func127, Tryz.ntmps127
    go_wp2
    all_goals (go_ret; refine ⟨ret_bool (by simp [e0]), (Below.refl _ _).alloc (Nat.le_refl _) _⟩)

def cntB (ph ck bo ba lb : Int) : Bool := inB ph 0 8 && inB ba 0 6 && inB ck 0 1000000 && inB bo 0 1000000 && inB lb 0 1000000
set_option maxHeartbeats 1000000 in
theorem numbersRight_any (w : World) :
    Calls Tryz.prog 128 #[cntV ph ck bo ba lb gd pr] w fun e w' => e = .returned (.bool (cntB ph ck bo ba lb)) ∧ Below w.heap.size w w' := by
  go_enter Tryz.func128, Tryz.ntmps128
  go_wp2_with (go_at_call 71; refine (within_any _ _ _ _).mono ?_; rintro e w' ⟨rfl, rfl⟩)
  all_goals (go_ret; refine ⟨ret_bool ?_, (Below.refl _ _).alloc (Nat.le_refl _) _⟩)
  all_goals simp [cntB, *]

def prbB (gd pr tr : Int) : Bool := inB gd 0 pr && decide (pr ≤ tr)
set_option maxHeartbeats 1000000 in
theorem probesRight_any (tr : Int) (w : World) :
    Calls Tryz.prog 129 #[cntV ph ck bo ba lb gd pr, .int .i64 tr] w fun e w' => e = .returned (.bool (prbB gd pr tr)) ∧ Below w.heap.size w w' := by
  unfold prbB
  by_cases h2 : pr ≤ tr
  · go_enter Tryz.func129, Tryz.ntmps129
    go_wp2_with (go_at_call 71; refine (within_any _ _ _ _).mono ?_; rintro e w' ⟨rfl, rfl⟩)
    all_goals (go_ret; refine ⟨ret_bool ?_, (Below.refl _ _).alloc (Nat.le_refl _) _⟩)
    all_goals simp [*]
  · have h3 : tr < pr := by omega
    go_enter Tryz.func129, Tryz.ntmps129
    go_wp2_with (go_at_call 71; refine (within_any _ _ _ _).mono ?_; rintro e w' ⟨rfl, rfl⟩)
    all_goals (go_ret; refine ⟨ret_bool ?_, (Below.refl _ _).alloc (Nat.le_refl _) _⟩)
    all_goals simp [*]

set_option maxHeartbeats 1000000 in
theorem besPod_any (L : List (Int × Int)) (i : Nat) (w : World) (hl : L.length = m0) (s0 : SlV w w.heap.size 2 E0 m0 (podCs L)) (hi : i < m0) (b0 : m0 ≤ maxLen) :
    Calls Tryz.prog 130 #[.agg (besC A0 A1 A2 A3 n0 c0 n1 c1 n2 c2 n3 c3 l p t E0 E1 E2 E3 m0 k0 m1 k1 m2 k2 m3 k3 ph co ck bo ba lb gd pr), .int .i64 i] w fun e w' =>
      e = .returned (.bool (podOkB (podA L i))) ∧ Below w.heap.size w w' := by
  unfold maxLen at b0
  obtain ⟨b, off, rfl, hb, hc⟩ := s0.cell hi
  have hp := podCs_at L (i := i) (by omega)
  have q0 := (hc 0 (by decide)).trans hp.1
  have q1 := (hc 1 (by decide)).trans hp.2
  rw [Nat.add_zero] at q0
  clear hc hp s0 hl
  generalize podA L i = r at *
  obtain ⟨x, y⟩ := r
  dsimp only at q0 q1
  go_enter Tryz.func130, Tryz.ntmps130
  go_wp2_with (go_at_call 71; refine (within_any _ _ _ _).mono ?_; rintro e w' ⟨rfl, rfl⟩)
  all_goals (go_ret; refine ⟨ret_bool ?_, ((Below.refl _ _).alloc (Nat.le_refl _) _).alloc (by simp) _⟩)
  all_goals simp [podOkB, *]

set_option maxHeartbeats 1000000 in
theorem besMount_any (L : List (Bool × Int)) (i : Nat) (w : World) (hl : L.length = m1) (s0 : SlV w w.heap.size 2 E1 m1 (mntCs L)) (hi : i < m1) (b0 : m1 ≤ maxLen) :
    Calls Tryz.prog 131 #[.agg (besC A0 A1 A2 A3 n0 c0 n1 c1 n2 c2 n3 c3 l p t E0 E1 E2 E3 m0 k0 m1 k1 m2 k2 m3 k3 ph co ck bo ba lb gd pr), .int .i64 i] w fun e w' =>
      e = .returned (.bool (mntOkB (mntA L i))) ∧ Below w.heap.size w w' := by
  unfold maxLen at b0
  obtain ⟨b, off, rfl, hb, hc⟩ := s0.cell hi
  have hp := mntCs_at L (i := i) (by omega)
  have q0 := (hc 0 (by decide)).trans hp.1
  have q1 := (hc 1 (by decide)).trans hp.2
  rw [Nat.add_zero] at q0
  clear hc hp s0 hl
  generalize mntA L i = r at *
  obtain ⟨x, y⟩ := r
  dsimp only at q0 q1
  cases x
  · go_enter Tryz.func131, Tryz.ntmps131
    go_wp2_with (go_at_call 71; refine (within_any _ _ _ _).mono ?_; rintro e w' ⟨rfl, rfl⟩)
    all_goals (go_ret; refine ⟨ret_bool ?_, ((Below.refl _ _).alloc (Nat.le_refl _) _).alloc (by simp) _⟩)
    all_goals simp [mntOkB, *]
  · go_enter Tryz.func131, Tryz.ntmps131
    go_wp2_with (go_at_call 71; refine (within_any _ _ _ _).mono ?_; rintro e w' ⟨rfl, rfl⟩)
    all_goals (go_ret; refine ⟨ret_bool ?_, ((Below.refl _ _).alloc (Nat.le_refl _) _).alloc (by simp) _⟩)
    all_goals simp [mntOkB, *]

set_option maxHeartbeats 1000000 in
theorem besLock_any (L : List Int) (i : Nat) (w : World) (hl : L.length = m3) (s0 : SlV w w.heap.size 1 E3 m3 (lkCs L)) (hi : i < m3) (b0 : m3 ≤ maxLen) :
    Calls Tryz.prog 132 #[.agg (besC A0 A1 A2 A3 n0 c0 n1 c1 n2 c2 n3 c3 l p t E0 E1 E2 E3 m0 k0 m1 k1 m2 k2 m3 k3 ph co ck bo ba lb gd pr), .int .i64 i] w fun e w' =>
      e = .returned (.bool (lkOkB L i)) ∧ Below w.heap.size w w' := by
  unfold maxLen at b0
  obtain ⟨b, off, rfl, hb, hc⟩ := s0.cell hi
  have q0 := hc 0 (by decide)
  rw [Nat.add_zero, Nat.mul_one, Nat.add_zero, lkCs_at L (i := i) (by omega)] at q0
  have q1 : w.cell? ⟨b, off + (i - 1), none⟩ = some (.int .i64 (lkA L (i - 1))) := by
    obtain ⟨b', off', e, -, hc'⟩ := s0.cell (i := i - 1) (by omega)
    injection e with e
    injection e with e1 e2 _
    subst e1 e2
    have := hc' 0 (by decide)
    rwa [Nat.add_zero, Nat.mul_one, Nat.add_zero, lkCs_at L (i := i - 1) (by omega)] at this
  have HOK : Hid (lkOkB L i = (inB (lkA L i) 0 7 && (decide (i = 0) || decide (lkA L (i - 1) < lkA L i)))) := Lib.hid rfl
  clear hc s0 hl
  generalize hx : lkA L i = x at *
  generalize hy : lkA L (i - 1) = y at *
  clear hx hy
  by_cases hi0 : i = 0
  · subst hi0
    rw [Nat.add_zero] at q0
    go_enter Tryz.func132, Tryz.ntmps132
    go_wp2_with (go_at_call 167; refine (isIndex_any _ _ _).mono ?_; rintro e w' ⟨rfl, rfl⟩)
    all_goals (go_ret; refine ⟨ret_bool ?_, (Below.refl _ _).alloc (Nat.le_refl _) _⟩)
    all_goals (rw [HOK.out]; simp [*])
  · have hpos : (0 : Int) < (i : Int) := by omega
    have hposN : 0 < i := by omega
    have hi1 : ((i : Int) - 1) = ((i - 1 : Nat) : Int) := by omega
    by_cases hxy : y < x
    · go_enter Tryz.func132, Tryz.ntmps132
      go_wp2_with (go_at_call 167; refine (isIndex_any _ _ _).mono ?_; rintro e w' ⟨rfl, rfl⟩)
      all_goals (go_ret; refine ⟨ret_bool ?_, (Below.refl _ _).alloc (Nat.le_refl _) _⟩)
      all_goals (rw [HOK.out]; simp [*])
    · have hle : x ≤ y := by omega
      go_enter Tryz.func132, Tryz.ntmps132
      go_wp2_with (go_at_call 167; refine (isIndex_any _ _ _).mono ?_; rintro e w' ⟨rfl, rfl⟩)
      all_goals (go_ret; refine ⟨ret_bool ?_, (Below.refl _ _).alloc (Nat.le_refl _) _⟩)
      all_goals (rw [HOK.out]; simp [*])
end
end Go.Proofs.YtfilbodigooenaaGreatDoor
/- Vb -/
set_option linter.unusedVariables false
namespace Go.Proofs.YtfilbodigooenaaGreatDoor
open Go.RowKit

theorem enter_besPod (x y : Value) (wr : World) : (callFunc 130 #[x, y]).run Tryz.prog wr = .ok (.enter 130 #[x, y]) wr := by simp [go_sem]
theorem enter_besMount (x y : Value) (wr : World) : (callFunc 131 #[x, y]).run Tryz.prog wr = .ok (.enter 131 #[x, y]) wr := by simp [go_sem]
theorem enter_besLock (x y : Value) (wr : World) : (callFunc 132 #[x, y]).run Tryz.prog wr = .ok (.enter 132 #[x, y]) wr := by simp [go_sem]

section
variable (A0 A1 A2 A3 : Option Addr) (n0 c0 n1 c1 n2 c2 n3 c3 : Nat) (l p t : Int) (E0 E1 E2 E3 : Option Addr) (m0 k0 m1 k1 m2 k2 m3 k3 : Nat) (ph : Int) (co : Bool) (ck bo ba lb gd pr : Int)
theorem all_besPods (L : List (Int × Int)) (w W : World) (K : Below w.heap.size w W) (hl : L.length = m0) (s0 : SlV w w.heap.size 2 E0 m0 (podCs L)) (b0 : m0 ≤ maxLen) :
    Calls Tryz.prog 122 #[.int .i64 m0, .func (.func 130) #[.agg (besC A0 A1 A2 A3 n0 c0 n1 c1 n2 c2 n3 c3 l p t E0 E1 E2 E3 m0 k0 m1 k1 m2 k2 m3 k3 ph co ck bo ba lb gd pr)] #[]] W fun e w' =>
      e = .returned (.bool (allB m0 (fun i => podOkB (podA L i)))) ∧ Below W.heap.size W w' :=
  allBelow_any _ _ m0 _ W b0 enter_besPod fun i hi wr hb =>
    besPod_any A0 A1 A2 A3 n0 c0 n1 c1 n2 c2 n3 c3 l p t E0 E1 E2 E3 m0 k0 m1 k1 m2 k2 m3 k3 ph co ck bo ba lb gd pr L i wr hl (s0.go (below_via K hb)) hi b0
theorem all_besMounts (L : List (Bool × Int)) (w W : World) (K : Below w.heap.size w W) (hl : L.length = m1) (s0 : SlV w w.heap.size 2 E1 m1 (mntCs L)) (b0 : m1 ≤ maxLen) :
    Calls Tryz.prog 122 #[.int .i64 m1, .func (.func 131) #[.agg (besC A0 A1 A2 A3 n0 c0 n1 c1 n2 c2 n3 c3 l p t E0 E1 E2 E3 m0 k0 m1 k1 m2 k2 m3 k3 ph co ck bo ba lb gd pr)] #[]] W fun e w' =>
      e = .returned (.bool (allB m1 (fun i => mntOkB (mntA L i)))) ∧ Below W.heap.size W w' :=
  allBelow_any _ _ m1 _ W b0 enter_besMount fun i hi wr hb =>
    besMount_any A0 A1 A2 A3 n0 c0 n1 c1 n2 c2 n3 c3 l p t E0 E1 E2 E3 m0 k0 m1 k1 m2 k2 m3 k3 ph co ck bo ba lb gd pr L i wr hl (s0.go (below_via K hb)) hi b0
theorem all_besLocks (L : List Int) (w W : World) (K : Below w.heap.size w W) (hl : L.length = m3) (s0 : SlV w w.heap.size 1 E3 m3 (lkCs L)) (b0 : m3 ≤ maxLen) :
    Calls Tryz.prog 122 #[.int .i64 m3, .func (.func 132) #[.agg (besC A0 A1 A2 A3 n0 c0 n1 c1 n2 c2 n3 c3 l p t E0 E1 E2 E3 m0 k0 m1 k1 m2 k2 m3 k3 ph co ck bo ba lb gd pr)] #[]] W fun e w' =>
      e = .returned (.bool (allB m3 (lkOkB L))) ∧ Below W.heap.size W w' :=
  allBelow_any _ _ m3 _ W b0 enter_besLock fun i hi wr hb =>
    besLock_any A0 A1 A2 A3 n0 c0 n1 c1 n2 c2 n3 c3 l p t E0 E1 E2 E3 m0 k0 m1 k1 m2 k2 m3 k3 ph co ck bo ba lb gd pr L i wr hl (s0.go (below_via K hb)) hi b0
end

def rightB (n0 n2 n3 : Nat) (t : Int) (s : StD) : Bool :=
  (decide (s.pods.length = n0) && decide (s.mnts.length = n2) && decide (s.devs.length = n3)) && cntB s.ph s.ck s.bo s.ba s.lb && prbB s.gd s.pr t && (s.co == decide (s.ph ≠ 0)) &&
  allB s.pods.length (fun i => podOkB (podA s.pods i)) && allB s.mnts.length (fun i => mntOkB (mntA s.mnts i)) && allB s.lks.length (lkOkB s.lks)
theorem stOkB_right (d : PlanD) (s : StD) : stOkB d s = (planOkB d && rightB d.n0 d.n2 d.n3 d.t s) := by
  rw [stOkB_parts]
  unfold rightB partsB cntB prbB
  generalize (s.co == decide (s.ph ≠ 0)) = b
  rw [Bool.eq_iff_iff]
  simp only [Bool.and_eq_true]
  constructor
  · rintro ⟨⟨⟨⟨⟨⟨⟨⟨⟨h0, h1⟩, h2⟩, h3⟩, h4⟩, h5⟩, h6⟩, h7⟩, h8⟩, ⟨⟨⟨⟨h9, ha⟩, hb⟩, hc⟩, hd⟩, he⟩
    simp [*]
  · rintro ⟨h0, ⟨⟨⟨⟨⟨⟨⟨h9, ha⟩, hb⟩, ⟨⟨⟨h1, h5⟩, h3⟩, h4⟩, h6⟩, h7, h8⟩, h2⟩, hc⟩, hd⟩, he⟩
    simp [*]

theorem wpList_load_rowG {P : Program} {ops : Array Oper} {rest : List Oper} {o : Oper} {a : Act} {w : World} {Q : Exit → Act → World → Prop} (hgd : Region.wanted o (yielded ops a.tmps) = true) (ty : TypeId) (x : Operand) (ho : o.op = .load ty x)
    (g : Nat) (hx : a.eval x = .pointer (some ⟨g, 0, none⟩)) (t : TypeId) (cs : Array Value) (fr : Nat × Nat) (d : TypeDesc) (hg : w.heap[g]? = some (.cells cs t fr))
    (hu : P.underlying ty = some d) (hd : (match d with | .struct _ | .array _ _ => true | _ => false) = true) (hi : (P.info? ty).map (·.size) = some cs.size)
    (h : wpList P ops Q rest (a.put o.dst (.agg cs)) w) : wpList P ops Q (o :: rest) a w :=
  wpList_step fun K hK => by rw [if_pos hgd]; exact wp_load_row ty x ho g hx t cs fr d hg hu hd hi (hK _ _ h)

theorem load_beside {ops : Array Oper} {rest : List Oper} {dst : Option Tmp} {ty : TypeId} {pos : String} {after : Array Edge} {gd : Option (Nat × Bool)} {a : Act} {w : World} {Q : Exit → Act → World → Prop} {g : Nat} {cs : Array Value}
    (hgd : Region.wanted (Oper.mk dst (.load 155 (.tmp 1)) ty pos after gd) (yielded ops a.tmps) = true) (hx : a.eval (.tmp 1) = .pointer (some ⟨g, 0, none⟩)) (hg : w.heap[g]? = some (.cells cs 155))
    (hi : (Tryz.prog.info? 155).map (·.size) = some cs.size)
    (h : wpList Tryz.prog ops Q rest (a.put dst (.agg cs)) w) : wpList Tryz.prog ops Q (Oper.mk dst (.load 155 (.tmp 1)) ty pos after gd :: rest) a w :=
  wpList_load_rowG hgd 155 (.tmp 1) rfl g hx _ cs _ _ hg Tryz.underlying155 rfl hi h

set_option maxHeartbeats 4000000 in
set_option maxRecDepth 20000 in
theorem right_run (cs : Array Value) (ph ck bo ba lb gd pr t : Int) (co : Bool) (E0 E1 E3 : Option Addr) (m0 k0 m1 k1 m3 k3 : Nat) (w : World) (C1 C2 C3 C4 C5 C6 : Bool) (hsz : cs.size = 19)
    (e0 : cs[0]? = some (.int .i64 ph)) (e1 : cs[1]? = some (.int .i64 ck)) (e2 : cs[2]? = some (.int .i64 bo)) (e3 : cs[3]? = some (.int .i64 ba)) (e4 : cs[4]? = some (.int .i64 lb)) (e5 : cs[5]? = some (.int .i64 gd)) (e6 : cs[6]? = some (.int .i64 pr))
    (e13 : cs[13]? = some (.int .i64 t)) (e14 : cs[14]? = some (.bool co)) (e15 : cs[15]? = some (.slice E0 m0 k0)) (e16 : cs[16]? = some (.slice E1 m1 k1)) (e18 : cs[18]? = some (.slice E3 m3 k3))
    (h1 : ∀ W, Below w.heap.size w W → Calls Tryz.prog 127 #[.agg cs] W fun e w' => e = .returned (.bool C1) ∧ Below W.heap.size W w')
    (h2 : ∀ W, Below w.heap.size w W → Calls Tryz.prog 128 #[cntV ph ck bo ba lb gd pr] W fun e w' => e = .returned (.bool C2) ∧ Below W.heap.size W w')
    (h3 : ∀ W, Below w.heap.size w W → Calls Tryz.prog 129 #[cntV ph ck bo ba lb gd pr, .int .i64 t] W fun e w' => e = .returned (.bool C3) ∧ Below W.heap.size W w')
    (h4 : ∀ W, Below w.heap.size w W → Calls Tryz.prog 122 #[.int .i64 m0, .func (.func 130) #[.agg cs] #[]] W fun e w' => e = .returned (.bool C4) ∧ Below W.heap.size W w')
    (h5 : ∀ W, Below w.heap.size w W → Calls Tryz.prog 122 #[.int .i64 m1, .func (.func 131) #[.agg cs] #[]] W fun e w' => e = .returned (.bool C5) ∧ Below W.heap.size W w')
    (h6 : ∀ W, Below w.heap.size w W → Calls Tryz.prog 122 #[.int .i64 m3, .func (.func 132) #[.agg cs] #[]] W fun e w' => e = .returned (.bool C6) ∧ Below W.heap.size W w') :
    Calls Tryz.prog 98 #[.agg cs] w fun e w' => e = .returned (.bool (C1 && C2 && C3 && (co == decide (ph ≠ 0)) && C4 && C5 && C6)) ∧ Below w.heap.size w w' := by
  have hi : (Tryz.prog.info? 155).map (·.size) = some cs.size := by rw [hsz]; kernel_rfl
  have H1 := Lib.hid h1
  have H2 := Lib.hid h2
  have H3 := Lib.hid h3
  have H4 := Lib.hid h4
  have H5 := Lib.hid h5
  have H6 := Lib.hid h6
  have HI := Lib.hid hi
  clear h1 h2 h3 h4 h5 h6 hi
  have G0 := Lib.hid e0
  have G1 := Lib.hid e1
  have G2 := Lib.hid e2
  have G3 := Lib.hid e3
  have G4 := Lib.hid e4
  have G5 := Lib.hid e5
  have G6 := Lib.hid e6
  have G13 := Lib.hid e13
  have G14 := Lib.hid e14
  have G15 := Lib.hid e15
  have G16 := Lib.hid e16
  have G18 := Lib.hid e18
  clear e0 e1 e2 e3 e4 e5 e6 e13 e14 e15 e16 e18
  have X0 := Own.box w cs 155
  have hH := heap_alloc_new w (.cells cs 155)
  go_enter Tryz.func98, Tryz.ntmps98
  go_upto_region 1 with fail
  generalize w.alloc (.cells cs 155) = W at X0 hH ⊢
  go_wp2_with ((with_reducible refine load_beside (g := w.heap.size) (cs := cs) ?_ ?_ hH HI.out ?_); rfl; rfl)
  refine (H1.out _ X0.K).mono ?_
  rintro e w1 ⟨rfl, hb⟩
  replace hH := (hb.block _ X0.z).trans hH
  have X1 := X0.step hb
  have q0 := (X1.C 0).trans G0.out
  have q1 := (X1.C 1).trans G1.out
  have q2 := (X1.C 2).trans G2.out
  have q3 := (X1.C 3).trans G3.out
  have q4 := (X1.C 4).trans G4.out
  have q5 := (X1.C 5).trans G5.out
  have q6 := (X1.C 6).trans G6.out
  clear hb X0
  cases C1
  · go_wp2
    all_goals (go_ret; exact ⟨ret_bool (by simp), X1.K⟩)
  · go_wp2_with fail
    clear q0 q1 q2 q3 q4 q5 q6
    refine (H2.out _ X1.K).mono ?_
    rintro e w2 ⟨rfl, hb⟩
    replace hH := (hb.block _ X1.z).trans hH
    have X2 := X1.step hb
    have q0 := (X2.C 0).trans G0.out
    have q1 := (X2.C 1).trans G1.out
    have q2 := (X2.C 2).trans G2.out
    have q3 := (X2.C 3).trans G3.out
    have q4 := (X2.C 4).trans G4.out
    have q5 := (X2.C 5).trans G5.out
    have q6 := (X2.C 6).trans G6.out
    have q13 := (X2.C 13).trans G13.out
    clear hb X1
    cases C2
    · go_wp2
      all_goals (go_ret; exact ⟨ret_bool (by simp), X2.K⟩)
    · go_wp2_with fail
      clear q0 q1 q2 q3 q4 q5 q6 q13
      refine (H3.out _ X2.K).mono ?_
      rintro e w3 ⟨rfl, hb⟩
      replace hH := (hb.block _ X2.z).trans hH
      have X3 := X2.step hb
      have q0 := (X3.C 0).trans G0.out
      have q14 := (X3.C 14).trans G14.out
      have q15 := (X3.C 15).trans G15.out
      clear hb X2
      cases C3
      · go_wp2
        all_goals (go_ret; exact ⟨ret_bool (by simp), X3.K⟩)
      · by_cases hph : ph = 0
        · subst hph
          cases co
          · go_wp2_with ((with_reducible refine load_beside (g := w.heap.size) (cs := cs) ?_ ?_ hH HI.out ?_); rfl; rfl)
            refine (H4.out _ X3.K).mono ?_
            rintro e w4 ⟨rfl, hb⟩
            replace hH := (hb.block _ X3.z).trans hH
            have X4 := X3.step hb
            have q16 := (X4.C 16).trans G16.out
            clear hb X3
            cases C4
            · go_wp2
              all_goals (go_ret; exact ⟨ret_bool (by simp), X4.K⟩)
            · go_wp2_with ((with_reducible refine load_beside (g := w.heap.size) (cs := cs) ?_ ?_ hH HI.out ?_); rfl; rfl)
              refine (H5.out _ X4.K).mono ?_
              rintro e w5 ⟨rfl, hb⟩
              replace hH := (hb.block _ X4.z).trans hH
              have X5 := X4.step hb
              have q18 := (X5.C 18).trans G18.out
              clear hb X4
              cases C5
              · go_wp2
                all_goals (go_ret; exact ⟨ret_bool (by simp), X5.K⟩)
              · go_wp2_with ((with_reducible refine load_beside (g := w.heap.size) (cs := cs) ?_ ?_ hH HI.out ?_); rfl; rfl)
                refine (H6.out _ X5.K).mono ?_
                rintro e w6 ⟨rfl, hb⟩
                replace hH := (hb.block _ X5.z).trans hH
                have X6 := X5.step hb
                clear hb X5
                go_wp2
                all_goals (go_ret; exact ⟨ret_bool (by simp [*]), X6.K⟩)
          · go_wp2
            all_goals (go_ret; exact ⟨ret_bool (by simp), X3.K⟩)
        · have hne : (ph != 0) = true := by simpa using hph
          cases co
          · go_wp2
            all_goals (go_ret; exact ⟨ret_bool (by simp [hph]), X3.K⟩)
          · go_wp2_with ((with_reducible refine load_beside (g := w.heap.size) (cs := cs) ?_ ?_ hH HI.out ?_); rfl; rfl)
            refine (H4.out _ X3.K).mono ?_
            rintro e w4 ⟨rfl, hb⟩
            replace hH := (hb.block _ X3.z).trans hH
            have X4 := X3.step hb
            have q16 := (X4.C 16).trans G16.out
            clear hb X3
            cases C4
            · go_wp2
              all_goals (go_ret; exact ⟨ret_bool (by simp), X4.K⟩)
            · go_wp2_with ((with_reducible refine load_beside (g := w.heap.size) (cs := cs) ?_ ?_ hH HI.out ?_); rfl; rfl)
              refine (H5.out _ X4.K).mono ?_
              rintro e w5 ⟨rfl, hb⟩
              replace hH := (hb.block _ X4.z).trans hH
              have X5 := X4.step hb
              have q18 := (X5.C 18).trans G18.out
              clear hb X4
              cases C5
              · go_wp2
                all_goals (go_ret; exact ⟨ret_bool (by simp), X5.K⟩)
              · go_wp2_with ((with_reducible refine load_beside (g := w.heap.size) (cs := cs) ?_ ?_ hH HI.out ?_); rfl; rfl)
                refine (H6.out _ X5.K).mono ?_
                rintro e w6 ⟨rfl, hb⟩
                replace hH := (hb.block _ X5.z).trans hH
                have X6 := X5.step hb
                clear hb X5
                go_wp2
                all_goals (go_ret; exact ⟨ret_bool (by simp [*]), X6.K⟩)
end Go.Proofs.YtfilbodigooenaaGreatDoor
/- VbS -/
set_option linter.unusedVariables false
namespace Go.Proofs.YtfilbodigooenaaGreatDoor
open Go.RowKit

set_option maxHeartbeats 2000000 in
theorem implStateOk_any (pv sv : Value) (d : PlanD) (s : StD) (w : World) (hp : IsPlan w w.heap.size pv d) (h : IsSt w w.heap.size sv s) :
    Calls Tryz.prog 72 #[pv, sv] w fun e w' => e = .returned (.bool (stOkB d s)) ∧ Below w.heap.size w w' := by
  have HP := Lib.hid hp
  obtain ⟨⟨A0, A1, A2, A3, c0, c1, c2, c3, rfl, -, -, -, -⟩, b0, b1, b2, b3⟩ := hp
  obtain ⟨⟨E0, E1, E2, E3, k0, k1, k2, k3, rfl, s0, s1, s2, s3⟩, d0, d1, d2, d3⟩ := h
  have HANS := Lib.hid (stOkB_right d s)
  have HR : Hid (∀ W, Below w.heap.size w W → Calls Tryz.prog 98 #[.agg (besC A0 A1 A2 A3 d.n0 c0 d.n1 c1 d.n2 c2 d.n3 c3 d.l d.p d.t E0 E1 E2 E3 s.pods.length k0 s.mnts.length k1 s.devs.length k2 s.lks.length k3 s.ph s.co s.ck s.bo s.ba s.lb s.gd s.pr)] W fun e w' => e = .returned (.bool (rightB d.n0 d.n2 d.n3 d.t s)) ∧ Below W.heap.size W w') := by
    refine Lib.hid fun W K => ?_
    refine (right_run (besC A0 A1 A2 A3 d.n0 c0 d.n1 c1 d.n2 c2 d.n3 c3 d.l d.p d.t E0 E1 E2 E3 s.pods.length k0 s.mnts.length k1 s.devs.length k2 s.lks.length k3 s.ph s.co s.ck s.bo s.ba s.lb s.gd s.pr) s.ph s.ck s.bo s.ba s.lb s.gd s.pr d.t s.co E0 E1 E3 s.pods.length k0 s.mnts.length k1 s.lks.length k3 W
      _ _ _ _ _ _ rfl rfl rfl rfl rfl rfl rfl rfl rfl rfl rfl rfl rfl
      (fun W' _ => countsRight_any A0 A1 A2 A3 d.n0 c0 d.n1 c1 d.n2 c2 d.n3 c3 d.l d.p d.t E0 E1 E2 E3 s.pods.length k0 s.mnts.length k1 s.devs.length k2 s.lks.length k3 s.ph s.co s.ck s.bo s.ba s.lb s.gd s.pr W' b0 b2 b3 d0 d1 d2)
      (fun W' _ => numbersRight_any s.ph s.ck s.bo s.ba s.lb s.gd s.pr W')
      (fun W' _ => probesRight_any s.ph s.ck s.bo s.ba s.lb s.gd s.pr d.t W')
      (fun W' K' => all_besPods A0 A1 A2 A3 d.n0 c0 d.n1 c1 d.n2 c2 d.n3 c3 d.l d.p d.t E0 E1 E2 E3 s.pods.length k0 s.mnts.length k1 s.devs.length k2 s.lks.length k3 s.ph s.co s.ck s.bo s.ba s.lb s.gd s.pr s.pods w W' (K.trans (K'.mono K.size)) rfl s0 d0)
      (fun W' K' => all_besMounts A0 A1 A2 A3 d.n0 c0 d.n1 c1 d.n2 c2 d.n3 c3 d.l d.p d.t E0 E1 E2 E3 s.pods.length k0 s.mnts.length k1 s.devs.length k2 s.lks.length k3 s.ph s.co s.ck s.bo s.ba s.lb s.gd s.pr s.mnts w W' (K.trans (K'.mono K.size)) rfl s1 d1)
      (fun W' K' => all_besLocks A0 A1 A2 A3 d.n0 c0 d.n1 c1 d.n2 c2 d.n3 c3 d.l d.p d.t E0 E1 E2 E3 s.pods.length k0 s.mnts.length k1 s.devs.length k2 s.lks.length k3 s.ph s.co s.ck s.bo s.ba s.lb s.gd s.pr s.lks w W' (K.trans (K'.mono K.size)) rfl s3 d3)).mono ?_
    rintro e w' ⟨rfl, hb⟩
    exact ⟨rfl, hb⟩
  clear s0 s1 s2 s3 b0 b1 b2 b3 d0 d1 d2 d3
  have T0 := Two.start w (planC A0 A1 A2 A3 d.n0 c0 d.n1 c1 d.n2 c2 d.n3 c3 d.l d.p d.t) (stC E0 E1 E2 E3 s.pods.length k0 s.mnts.length k1 s.devs.length k2 s.lks.length k3 s.ph s.co s.ck s.bo s.ba s.lb s.gd s.pr) 44 49
  generalize stOkB d s = ans at *
  generalize rightB d.n0 d.n2 d.n3 d.t s = rt at *
  go_enter Tryz.func72, Tryz.ntmps72
  go_wp2_with fail
  refine (planOk_any _ d _ ((HP.out.below T0.A.K (Nat.le_refl _)).more T0.A.K.size)).mono ?_
  rintro e w1 ⟨rfl, hb1⟩
  have X := T0.step hb1
  have hC := X.A.C
  have hD := X.O.C
  clear T0 hb1
  cases h0 : planOkB d
  · have H0 := Lib.hid h0
    clear h0
    go_wp2_with fail
    go_ret
    exact ⟨ret_bool (by rw [HANS.out, H0.out]; simp), X.A.K⟩
  · have H0 := Lib.hid h0
    clear h0
    go_wp2_with fail
    refine (besidePlan_any A0 A1 A2 A3 d.n0 c0 d.n1 c1 d.n2 c2 d.n3 c3 d.l d.p d.t E0 E1 E2 E3 s.pods.length k0 s.mnts.length k1 s.devs.length k2 s.lks.length k3 s.ph s.co s.ck s.bo s.ba s.lb s.gd s.pr _).mono ?_
    rintro e w2 ⟨rfl, hb2⟩
    have X2 := X.step hb2
    clear hb2 X hC hD
    go_wp2_with fail
    refine (HR.out _ X2.A.K).mono ?_
    rintro e w3 ⟨rfl, hb3⟩
    have X3 := X2.step hb3
    clear hb3 X2
    go_wp2
    go_ret
    exact ⟨ret_bool (by rw [HANS.out, H0.out]; simp), X3.A.K⟩
end Go.Proofs.YtfilbodigooenaaGreatDoor
/- Ba -/
set_option linter.unusedVariables false
namespace Go.Proofs.YtfilbodigooenaaGreatDoor
open Go.RowKit

theorem info_rec : (Tryz.prog.info? 93).map (fun i => (i.zero, i.size, i.bytes)) = some (some (.agg #[.int .i64 0, .int .i64 0, .int .i64 0]), 3, 24) := by kernel_rfl

/-! Bytes. -/
def byteV (b : Nat) : Value := .int .u8 (b : Int)
def SmallB (L : List Nat) : Prop := ∀ x ∈ L, x < 256
theorem SmallB.getD {L : List Nat} (h : SmallB L) (k : Nat) : L.getD k 0 < 256 := by
  by_cases hk : k < L.length
  · rw [List.getD_eq_getElem?_getD, List.getElem?_eq_getElem hk]; exact h _ (List.getElem_mem _)
  · rw [List.getD_eq_getElem?_getD, List.getElem?_eq_none (by omega)]; simp
theorem SmallB.drop {L : List Nat} (h : SmallB L) (k : Nat) : SmallB (L.drop k) := fun x hx => h x (List.mem_of_mem_drop hx)
theorem SmallB.take {L : List Nat} (h : SmallB L) (k : Nat) : SmallB (L.take k) := fun x hx => h x (List.mem_of_mem_take hx)
theorem SmallB.append {L M : List Nat} (h : SmallB L) (h' : SmallB M) : SmallB (L ++ M) := fun x hx => (List.mem_append.1 hx).elim (h x) (h' x)

/-- A slice of the bytes L, lying below block B. -/
structure Bt (w : World) (B : Nat) (v : Value) (L : List Nat) : Prop where
  it : ∃ A c, v = .slice A L.length c ∧ L.length ≤ c ∧ (0 < L.length → ∃ b off, A = some ⟨b, off, none⟩ ∧ b < B ∧ ∀ j, j < L.length → w.cell? ⟨b, off + j, none⟩ = some (.int .u8 (L.getD j 0 : Nat)))
  len : L.length ≤ maxLen
  small : SmallB L
theorem Bt.below {w w' : World} {B B' : Nat} {v : Value} {L : List Nat} (h : Bt w B v L) (hb : Below B' w w') (hB : B ≤ B') : Bt w' B v L := by
  obtain ⟨⟨A, c, rfl, hcap, hc⟩, hl, hs⟩ := h
  refine ⟨⟨A, c, rfl, hcap, fun hn => ?_⟩, hl, hs⟩
  obtain ⟨b, off, rfl, hlt, hc⟩ := hc hn
  exact ⟨b, off, rfl, hlt, fun j hj => (hb.cell (p := ⟨b, off + j, none⟩) (by show b < B'; omega)).trans (hc j hj)⟩
theorem Bt.more {w : World} {B B' : Nat} {v : Value} {L : List Nat} (h : Bt w B v L) (hB : B ≤ B') : Bt w B' v L := by
  obtain ⟨⟨A, c, rfl, hcap, hc⟩, hl, hs⟩ := h
  refine ⟨⟨A, c, rfl, hcap, fun hn => ?_⟩, hl, hs⟩
  obtain ⟨b, off, rfl, hlt, hc⟩ := hc hn
  exact ⟨b, off, rfl, by omega, hc⟩
theorem Bt.go {w w' : World} {v : Value} {L : List Nat} (h : Bt w w.heap.size v L) (hb : Below w.heap.size w w') : Bt w' w'.heap.size v L := (h.below hb (Nat.le_refl _)).more hb.size
theorem Bt.cell {w : World} {B : Nat} {A : Option Addr} {n c : Nat} {L : List Nat} (h : Bt w B (.slice A n c) L) {k : Nat} (hk : k < L.length) :
    ∃ b off, A = some ⟨b, off, none⟩ ∧ b < B ∧ w.cell? ⟨b, off + k, none⟩ = some (.int .u8 (L.getD k 0 : Nat)) := by
  obtain ⟨⟨A', c', hv, hcap, hc⟩, hl, hs⟩ := h
  injection hv with h1 _ _
  subst h1
  obtain ⟨b, off, e, hlt, hc⟩ := hc (by omega)
  exact ⟨b, off, e, hlt, hc k hk⟩
theorem getD_drop (L : List Nat) (k j : Nat) : (L.drop k).getD j 0 = L.getD (k + j) 0 := by simp [List.getD]
theorem Bt.drop {w : World} {B : Nat} {A : Option Addr} {n c : Nat} {L : List Nat} (h : Bt w B (.slice A n c) L) {k : Nat} (hk : k ≤ L.length) :
    Bt w B (.slice (if c = k then A else A.map (·.add k)) (n - k) (c - k)) (L.drop k) := by
  obtain ⟨⟨A', c1, hv, hcap, hc⟩, hl, hs⟩ := h
  injection hv with h1 h2 h3
  subst h1 h2 h3
  refine ⟨⟨_, c - k, by rw [List.length_drop], by rw [List.length_drop]; omega, fun hn => ?_⟩, by rw [List.length_drop]; omega, hs.drop k⟩
  rw [List.length_drop] at hn
  obtain ⟨b, off, rfl, hlt, hc⟩ := hc (by omega)
  rw [if_neg (by omega)]
  have ha : (⟨b, off, none⟩ : Addr).add k = ⟨b, off + k, none⟩ := by unfold Addr.add; split <;> simp_all
  refine ⟨b, off + k, by simp [ha], hlt, fun j hj => ?_⟩
  rw [List.length_drop] at hj
  rw [getD_drop, Nat.add_assoc]
  exact hc (k + j) (by omega)
theorem Bt.nil (w : World) (B : Nat) (A : Option Addr) (c : Nat) : Bt w B (.slice A 0 c) [] := ⟨⟨A, c, rfl, Nat.zero_le _, fun h => absurd h (Nat.lt_irrefl _)⟩, Nat.zero_le _, fun x hx => by cases hx⟩
theorem Bt.take {w : World} {B : Nat} {A : Option Addr} {n c : Nat} {L : List Nat} (h : Bt w B (.slice A n c) L) {k : Nat} (hk : k ≤ L.length) {c' : Nat} (hc' : k ≤ c') :
    Bt w B (.slice A k c') (L.take k) := by
  obtain ⟨⟨A', c1, hv, hcap, hc⟩, hl, hs⟩ := h
  injection hv with h1 h2 h3
  subst h1
  refine ⟨⟨A, c', by rw [List.length_take, Nat.min_eq_left hk], by rw [List.length_take]; omega, fun hn => ?_⟩, by rw [List.length_take]; omega, hs.take k⟩
  rw [List.length_take] at hn
  obtain ⟨b, off, rfl, hlt, hc⟩ := hc (by omega)
  refine ⟨b, off, rfl, hlt, fun j hj => ?_⟩
  rw [List.length_take] at hj
  have : (L.take k).getD j 0 = L.getD j 0 := by simp [List.getD, show j < k by omega]
  rw [this]
  exact hc j (by omega)

/-- A row of bytes of the call's own. -/
structure OB (w : World) (B : Nat) (v : Value) (L : List Nat) : Prop where
  own : w.ownsRow B 5 1 v L.length (L.map byteV)
  small : SmallB L
theorem OB.below {w w' : World} {B : Nat} {v : Value} {L : List Nat} (h : OB w B v L) (hb : Below w.heap.size w w') : OB w' B v L := ⟨ownsRow_below h.own hb, h.small⟩
theorem OB.base {w : World} {B B' : Nat} {v : Value} {L : List Nat} (h : OB w B v L) (hb : B' ≤ B) : OB w B' v L := ⟨ownsRow_base h.own hb, h.small⟩
theorem OB.lt {w : World} {B : Nat} {v : Value} {L : List Nat} (h : OB w B v L) {r : Nat} (hr : v.ownBlock = some r) : B ≤ r ∧ r < w.heap.size := World.ownsRow.lt h.own r hr
theorem OB.nil_ (w : World) (B : Nat) : OB w B (.slice none 0 0) [] := ⟨World.ownsRow_nil _ _ _ _, fun x hx => by cases hx⟩
theorem OB.len {w : World} {B : Nat} {v : Value} {L : List Nat} (h : OB w B v L) : L.length ≤ maxLen := by
  rcases h.own.2 with ⟨_, h0⟩ | ⟨g, cap, cur, _, _, _, hnc, hcm, _⟩
  · rw [h0]; exact Nat.zero_le _
  · exact Nat.le_trans hnc hcm
theorem OB.empty {w : World} {B : Nat} (hB : B ≤ w.heap.size) : OB (w.alloc (.cells #[] 5)) B (.slice (some ⟨w.heap.size, 0, none⟩) 0 0) [] := by
  have := World.ownsRow_made (base := w.heap.size) (e := 5) (size := 1) w #[] 0 (by simp) (Nat.zero_le _) rfl
  exact ⟨ownsRow_base (by simpa using this) hB, fun x hx => by cases hx⟩
theorem byteV_get {L : List Nat} {j : Nat} (hj : j < L.length) : (L.map byteV)[j]? = some (.int .u8 (L.getD j 0 : Nat)) := by simp [byteV, List.getD, hj]
theorem OB.open_ {w : World} {B : Nat} {v : Value} {L : List Nat} (h : OB w B v L) :
    ∃ A c g, v = .slice A L.length c ∧ L.length ≤ c ∧ (0 < L.length → A = some ⟨g, 0, none⟩) ∧ B ≤ g ∧ (0 < L.length → g < w.heap.size) ∧ (∀ j, j < L.length → w.cell? ⟨g, j, none⟩ = some (.int .u8 (L.getD j 0 : Nat)) ∧ w.frozen? ⟨g, j, none⟩ = false) := by
  rcases h.own.2 with ⟨rfl, h0⟩ | ⟨g, cap, cur, rfl, hb, hh, hnc, _⟩
  · exact ⟨none, 0, B, by rw [h0], by omega, fun h => by omega, Nat.le_refl _, fun h => by omega, fun j hj => by omega⟩
  · refine ⟨_, cap, g, rfl, hnc, fun _ => rfl, hb, fun _ => (Array.getElem?_eq_some_iff.1 hh).1, fun j hj => ⟨?_, frozen_of_row _ _ _ _ _ hh⟩⟩
    have := h.own.cells (g := g) rfl j _ (byteV_get hj)
    rwa [add_zero_block] at this
/-! Records. -/
def flat (l : List RecD) : List Int := l.flatMap fun r => [r.k, r.a, r.b]
theorem flat_cons (r : RecD) (l : List RecD) : flat (r :: l) = r.k :: r.a :: r.b :: flat l := rfl
theorem flat_append (l m : List RecD) : flat (l ++ m) = flat l ++ flat m := List.flatMap_append
theorem flat_length (l : List RecD) : (flat l).length = l.length * 3 := by
  induction l with
  | nil => rfl
  | cons r l ih => rw [flat_cons]; simp [ih]; omega
def recAt (l : List RecD) (i : Nat) : RecD := l.getD i ⟨0, 0, 0⟩
def cellR (l : List RecD) (j : Nat) : Int := (flat l).getD j 0
theorem cellR_at (l : List RecD) (i : Nat) : cellR l (i * 3) = (recAt l i).k ∧ cellR l (i * 3 + 1) = (recAt l i).a ∧ cellR l (i * 3 + 2) = (recAt l i).b := by
  unfold cellR recAt
  induction l generalizing i with
  | nil => simp [flat]
  | cons r l ih =>
    cases i with
    | zero => exact ⟨rfl, rfl, rfl⟩
    | succ i =>
      have := ih i
      rw [flat_cons, show (i + 1) * 3 = i * 3 + 1 + 1 + 1 by omega, show i * 3 + 1 + 1 + 1 + 1 = (i * 3 + 1) + 1 + 1 + 1 by omega, show i * 3 + 1 + 1 + 1 + 2 = (i * 3 + 2) + 1 + 1 + 1 by omega]
      simpa only [List.getD_cons_succ] using this
def recVs (l : List RecD) : List Value := (flat l).map (Value.int .i64)
theorem recVs_get {l : List RecD} {j : Nat} (hj : j < l.length * 3) : (recVs l)[j]? = some (.int .i64 (cellR l j)) := by
  have : j < (flat l).length := by rw [flat_length]; exact hj
  simp [recVs, cellR, List.getD, this]
/-- A slice of the records l, lying below block B. -/
structure Rt (w : World) (B : Nat) (v : Value) (l : List RecD) : Prop where
  it : ∃ A c, v = .slice A l.length c ∧ Sl w B 3 A l.length (cellR l)
  len : l.length ≤ maxLen
theorem Rt.below {w w' : World} {B B' : Nat} {v : Value} {l : List RecD} (h : Rt w B v l) (hb : Below B' w w') (hB : B ≤ B') : Rt w' B v l := by
  obtain ⟨⟨A, c, rfl, hc⟩, hl⟩ := h
  exact ⟨⟨A, c, rfl, hc.below hb hB⟩, hl⟩
theorem Rt.more {w : World} {B B' : Nat} {v : Value} {l : List RecD} (h : Rt w B v l) (hB : B ≤ B') : Rt w B' v l := by
  obtain ⟨⟨A, c, rfl, hc⟩, hl⟩ := h
  exact ⟨⟨A, c, rfl, hc.more hB⟩, hl⟩
theorem Rt.go {w w' : World} {v : Value} {l : List RecD} (h : Rt w w.heap.size v l) (hb : Below w.heap.size w w') : Rt w' w'.heap.size v l := (h.below hb (Nat.le_refl _)).more hb.size
theorem Sl.cell3 {w : World} {B n : Nat} {A : Option Addr} {x : Nat → Int} (h : Sl w B 3 A n x) {i : Nat} (hi : i < n) : ∃ b off, A = some ⟨b, off, none⟩ ∧ b < B ∧
    w.cell? ⟨b, off + i * 3, none⟩ = some (.int .i64 (x (i * 3))) ∧ w.cell? ⟨b, off + i * 3 + 1, none⟩ = some (.int .i64 (x (i * 3 + 1))) ∧ w.cell? ⟨b, off + i * 3 + 2, none⟩ = some (.int .i64 (x (i * 3 + 2))) := by
  obtain ⟨b, off, rfl, hb, hc⟩ := h (by omega)
  exact ⟨b, off, rfl, hb, hc _ (by omega), by rw [Nat.add_assoc]; exact hc _ (by omega), by rw [Nat.add_assoc]; exact hc _ (by omega)⟩
theorem Rt.cell {w : World} {B : Nat} {A : Option Addr} {n c : Nat} {l : List RecD} (h : Rt w B (.slice A n c) l) {i : Nat} (hi : i < l.length) : ∃ b off, A = some ⟨b, off, none⟩ ∧ b < B ∧
    w.cell? ⟨b, off + i * 3, none⟩ = some (.int .i64 (recAt l i).k) ∧ w.cell? ⟨b, off + i * 3 + 1, none⟩ = some (.int .i64 (recAt l i).a) ∧ w.cell? ⟨b, off + i * 3 + 2, none⟩ = some (.int .i64 (recAt l i).b) := by
  obtain ⟨⟨A', c', hv, hc⟩, hl⟩ := h
  injection hv with h1 _ _
  subst h1
  obtain ⟨e1, e2, e3⟩ := cellR_at l i
  have := hc.cell3 hi
  rwa [e1, e2, e3] at this
/-- A row of records of the call's own. -/
def OR (w : World) (B : Nat) (v : Value) (l : List RecD) : Prop := w.ownsRow B 93 3 v l.length (recVs l)
theorem OR.below {w w' : World} {B : Nat} {v : Value} {l : List RecD} (h : OR w B v l) (hb : Below w.heap.size w w') : OR w' B v l := ownsRow_below h hb
theorem OR.base {w : World} {B B' : Nat} {v : Value} {l : List RecD} (h : OR w B v l) (hb : B' ≤ B) : OR w B' v l := ownsRow_base h hb
theorem OR.lt {w : World} {B : Nat} {v : Value} {l : List RecD} (h : OR w B v l) {r : Nat} (hr : v.ownBlock = some r) : B ≤ r ∧ r < w.heap.size := World.ownsRow.lt h r hr
theorem OR.nil_ (w : World) (B : Nat) : OR w B (.slice none 0 0) [] := World.ownsRow_nil _ _ _ _
theorem OR.len {w : World} {B : Nat} {v : Value} {l : List RecD} (h : OR w B v l) : l.length ≤ maxLen := by
  rcases h.2 with ⟨_, h0⟩ | ⟨g, cap, cur, _, _, _, hnc, hcm, _⟩
  · rw [h0]; exact Nat.zero_le _
  · exact Nat.le_trans hnc hcm
theorem OR.empty {w : World} {B : Nat} (hB : B ≤ w.heap.size) : OR (w.alloc (.cells #[] 93)) B (.slice (some ⟨w.heap.size, 0, none⟩) 0 0) [] := by
  have := World.ownsRow_made (base := w.heap.size) (e := 93) (size := 3) w #[] 0 (by simp) (Nat.zero_le _) rfl
  exact ownsRow_base (by simpa [recVs, flat] using this) hB
theorem OR.open_ {w : World} {B : Nat} {v : Value} {l : List RecD} (h : OR w B v l) :
    ∃ A c g, v = .slice A l.length c ∧ (0 < l.length → A = some ⟨g, 0, none⟩) ∧ B ≤ g ∧ (0 < l.length → g < w.heap.size) ∧ RowF w g (l.length * 3) (cellR l) := by
  rcases h.2 with ⟨rfl, h0⟩ | ⟨g, cap, cur, rfl, hb, hh, _⟩
  · exact ⟨none, 0, B, by rw [h0], fun h => by omega, Nat.le_refl _, fun h => by omega, fun j hj => by omega⟩
  · refine ⟨_, cap, g, rfl, fun _ => rfl, hb, fun _ => (Array.getElem?_eq_some_iff.1 hh).1, fun j hj => ⟨?_, frozen_of_row _ _ _ _ _ hh⟩⟩
    have := World.ownsRow.cells h (g := g) rfl j _ (recVs_get hj)
    rwa [add_zero_block] at this
theorem OR.rt {w : World} {B : Nat} {v : Value} {l : List RecD} (h : OR w B v l) : Rt w w.heap.size v l := by
  have hl := h.len
  obtain ⟨A, c, g, rfl, hA, hB, hg, hc⟩ := h.open_
  exact ⟨⟨A, c, rfl, fun hn => ⟨g, 0, hA hn, hg hn, fun j hj => by rw [Nat.zero_add]; exact (hc j hj).1⟩⟩, hl⟩
/-- Records out of places. -/
def recsFrom (n : Nat) (x : Nat → Int) : List RecD := (List.range n).map fun i => ⟨x (i * 3), x (i * 3 + 1), x (i * 3 + 2)⟩
theorem recsFrom_length (n : Nat) (x : Nat → Int) : (recsFrom n x).length = n := by simp [recsFrom]
theorem cellR_from {n : Nat} {x : Nat → Int} {j : Nat} (hj : j < n * 3) : cellR (recsFrom n x) j = x j := by
  have hi : j / 3 < n := by omega
  have hr : recAt (recsFrom n x) (j / 3) = ⟨x (j / 3 * 3), x (j / 3 * 3 + 1), x (j / 3 * 3 + 2)⟩ := by simp [recAt, recsFrom, List.getD, hi]
  obtain ⟨e1, e2, e3⟩ := cellR_at (recsFrom n x) (j / 3)
  rw [hr] at e1 e2 e3
  dsimp only at e1 e2 e3
  rcases (by omega : j = j / 3 * 3 ∨ j = j / 3 * 3 + 1 ∨ j = j / 3 * 3 + 2) with e | e | e
  · rw [← e] at e1; exact e1
  · rw [← e] at e2; exact e2
  · rw [← e] at e3; exact e3
end Go.Proofs.YtfilbodigooenaaGreatDoor
