/-
  Chapter 11 of the program: what a tick asks.
-/
import Derived.Test.YtdphpjnecjofeaaGreatMZ1
import Derived.Test.YtdphpjnecjofeaaGreatMZ6
import Derived.Test.YtdphpjnecjofeaaGreatMZxWc
import Derived.Test.YtdphpjnecjofeaaGreatMZ9
import Derived.Test.YtdphpjnecjofeaaGreatMZ7
import Derived.Deep.RegionHeld3
import Derived.Deep.AppendLies
import Derived.Test.YtdphpjnecjofeaaGreatMZ10
import Derived.Deep.DeepCutAuto
/- Ya -/
set_option linter.unusedVariables false
namespace Go.Proofs.YtdphpjnecjofeaaGreat
open Go.RowKit

set_option maxRecDepth 100000 in
set_option maxHeartbeats 2000000 in
theorem markPlan_num (d : PlanD) (g0 g1 g2 g3 : Nat) (w0 w : World) (h : NewPlan w0 w d g0 g1 g2 g3) (h0 : d.n0 ≤ 1048576) (h1 : d.n1 ≤ 1048576) (h2 : d.n2 ≤ 1048576) (h3 : d.n3 ≤ 1048576) :
    Calls Tryz.prog 13 #[newPlanV d g0 g1 g2 g3, .int .i64 1] w fun e w' => e = .returned (.int .i64 (1 + 4 * d.n0 + d.n1 + 2 * d.n2 + d.n3)) ∧ Keeps (fun b => g0 ≤ b ∧ b ≤ g3) w w' := by
  obtain ⟨l0, l1, l2, l3, l4, R0, R1, R2, R3⟩ := h
  obtain ⟨n0, n1, n2, n3, x0, x1, x2, x3, l, p, t⟩ := d
  dsimp only at *
  have H0 := Lib.hid h0
  have H1 := Lib.hid h1
  have H2 := Lib.hid h2
  have H3 := Lib.hid h3
  clear h0 h1 h2 h3
  have b0 : (n0 : Int) ≤ 1048576 := by have := H0.out; omega
  have b1 : (n1 : Int) ≤ 1048576 := by have := H1.out; omega
  have b2 : (n2 : Int) ≤ 1048576 := by have := H2.out; omega
  have b3 : (n3 : Int) ≤ 1048576 := by have := H3.out; omega
  go_enter Tryz.func13, Tryz.ntmps13
  go_wp2_with fail
  have X := cell_new w (planC (some ⟨g0, 0, none⟩) (some ⟨g1, 0, none⟩) (some ⟨g2, 0, none⟩) (some ⟨g3, 0, none⟩) n0 n0 n1 n1 n2 n2 n3 n3 l p t) 42
  have A1 := (Below.refl w.heap.size w).alloc (Nat.le_refl _) (.cells (planC (some ⟨g0, 0, none⟩) (some ⟨g1, 0, none⟩) (some ⟨g2, 0, none⟩) (some ⟨g3, 0, none⟩) n0 n0 n1 n1 n2 n2 n3 n3 l p t) 42)
  have K1 : Keeps (fun b => g0 ≤ b ∧ b ≤ g3) w _ := Keeps.of_below A1
  have R0 := R0.below A1 (by omega)
  have R1 := R1.below A1 (by omega)
  have R2 := R2.below A1 (by omega)
  have R3 := R3.below A1 (by omega)
  have z1 : w.heap.size < (w.alloc (.cells (planC (some ⟨g0, 0, none⟩) (some ⟨g1, 0, none⟩) (some ⟨g2, 0, none⟩) (some ⟨g3, 0, none⟩) n0 n0 n1 n1 n2 n2 n3 n3 l p t) 42)).heap.size := by simp
  refine (markPodS_any _ n0 _ g0 _ x0 _ (fun _ => rfl) R0 H0.out (by omega) (by omega)).mono ?_
  rintro e w2 ⟨rfl, k⟩
  have hC2 : ∀ o, w2.cell? ⟨w.heap.size, o, none⟩ = _ := fun o => (k.cell (p := ⟨w.heap.size, o, none⟩) z1 (by show ¬ w.heap.size = g0; omega)).trans (X o)
  have R1 := R1.keeps k (by omega) (by omega)
  have R2 := R2.keeps k (by omega) (by omega)
  have R3 := R3.keeps k (by omega) (by omega)
  have K2 := K1.trans (k.mono (T := fun b => g0 ≤ b ∧ b ≤ g3) (by rintro b rfl; omega))
  have z2 := Nat.lt_of_lt_of_le z1 k.size
  clear X A1 K1 R0 z1 k
  go_wp2_with fail
  refine (markInt64S_any _ n1 _ g1 _ x1 _ (fun _ => rfl) R1 H1.out (by omega) (by omega)).mono ?_
  rintro e w3 ⟨rfl, -, k⟩
  have hC3 : ∀ o, w3.cell? ⟨w.heap.size, o, none⟩ = _ := fun o => (k.cell (p := ⟨w.heap.size, o, none⟩) z2 (by show ¬ w.heap.size = g1; omega)).trans (hC2 o)
  have R2 := R2.keeps k (by omega) (by omega)
  have R3 := R3.keeps k (by omega) (by omega)
  have K3 := K2.trans (k.mono (T := fun b => g0 ≤ b ∧ b ≤ g3) (by rintro b rfl; omega))
  have z3 := Nat.lt_of_lt_of_le z2 k.size
  clear hC2 K2 R1 z2 k
  go_wp2_with fail
  refine (markMountS_any _ n2 _ g2 _ x2 _ (fun _ => rfl) R2 H2.out (by omega) (by omega)).mono ?_
  rintro e w4 ⟨rfl, k⟩
  have hC4 : ∀ o, w4.cell? ⟨w.heap.size, o, none⟩ = _ := fun o => (k.cell (p := ⟨w.heap.size, o, none⟩) z3 (by show ¬ w.heap.size = g2; omega)).trans (hC3 o)
  have R3 := R3.keeps k (by omega) (by omega)
  have K4 := K3.trans (k.mono (T := fun b => g0 ≤ b ∧ b ≤ g3) (by rintro b rfl; omega))
  have z4 := Nat.lt_of_lt_of_le z3 k.size
  clear hC3 K3 R2 z3 k
  go_wp2_with fail
  refine (markDeviceS_any _ n3 _ g3 _ x3 _ (fun _ => rfl) R3 H3.out (by omega) (by omega)).mono ?_
  rintro e w5 ⟨rfl, k⟩
  have K5 := K4.trans (k.mono (T := fun b => g0 ≤ b ∧ b ≤ g3) (by rintro b rfl; omega))
  clear hC4 K4 R3 z4 k
  go_wp2_with fail
  go_ret
  exact ⟨ret_int (by omega), K5⟩
theorem NewSt.rowsIn {w w' : World} {s : StD} {g0 g1 g2 g3 : Nat} (h : NewSt w w' s g0 g1 g2 g3) : RowsIn w' (newStV s g0 g1 g2 g3) s w.heap.size w'.heap.size := by
  have R := h.rows
  obtain ⟨l0, l1, l2, l3, l4, R0, R1, R2, R3⟩ := h
  exact ⟨g0, g1, g2, g3, R, ⟨l0, by omega, by omega, by omega⟩, fun _ => by omega, fun _ => by omega, fun _ => by omega, fun _ => by omega⟩
theorem BoxS.own {w W : World} {B g : Nat} {cs : Array Value} (h : BoxS W B g cs.toList) (K : Below w.heap.size w W) : Own w W g cs := ⟨K, h.lt.2, h.C, fun o => h.frozen o⟩
/-- A row in a block of the heap. -/
structure RowB (w : World) (g N : Nat) (x : Nat → Int) : Prop where
  R : RowF w g N x
  z : g < w.heap.size
theorem RowB.go {w w' : World} {g N : Nat} {x : Nat → Int} (h : RowB w g N x) (hb : Below w.heap.size w w') : RowB w' g N x := ⟨h.R.below hb h.z, Nat.lt_of_lt_of_le h.z hb.size⟩
theorem RowB.keeps {S : Nat → Prop} {w w' : World} {g N : Nat} {x : Nat → Int} (h : RowB w g N x) (k : Keeps S w w') (hn : ¬ S g) : RowB w' g N x := ⟨h.R.keeps k h.z hn, Nat.lt_of_lt_of_le h.z k.size⟩
theorem Two.keeps {S : Nat → Prop} {w w1 w2 : World} {cs os : Array Value} (h : Two w w1 cs os) (k : Keeps S w1 w2) (hS : ∀ b, S b → w.heap.size + 1 < b) : Two w w2 cs os :=
  ⟨h.A.keeps k (fun b hb => by have := hS b hb; omega) (fun hb => by have := hS _ hb; omega), h.O.keeps k (fun b hb => by have := hS b hb; omega) (fun hb => by have := hS _ hb; omega)⟩
theorem tot_half {s : StD} {m : Int} (h : (s.pods.length + s.mnts.length + s.devs.length + s.lks.length : Nat) ≤ m) : (totS s : Int) ≤ 2 * m := by unfold totS; omega
end Go.Proofs.YtdphpjnecjofeaaGreat
/- Wl -/
set_option linter.unusedVariables false
namespace Go.Proofs.YtdphpjnecjofeaaGreat
open Go.RowKit

def tickD (d : PlanD) (s : StD) : List RecD × Int := if 1000000 ≤ s.ck then noR 7 else (tickL d s, 0)
theorem recs_one (w : World) (cs os : Array Value) (t t' : TypeId) (k a b : Int) : Two w (((w.alloc (.cells cs t)).alloc (.cells os t')).alloc (.cells #[.int .i64 k, .int .i64 a, .int .i64 b] 77)) cs os ∧
    OR (((w.alloc (.cells cs t)).alloc (.cells os t')).alloc (.cells #[.int .i64 k, .int .i64 a, .int .i64 b] 77)) (w.heap.size + 2) (.slice (some ⟨w.heap.size + 1 + 1, 0, none⟩) 1 1) [⟨k, a, b⟩] := by
  have T0 := Two.start w cs os t t'
  have O1 : OR _ (w.heap.size + 2) _ [⟨k, a, b⟩] := OR.first (w := (w.alloc (.cells cs t)).alloc (.cells os t')) T0.O.z k a b
  have e : ((w.alloc (.cells cs t)).alloc (.cells os t')).heap.size = w.heap.size + 1 + 1 := by simp
  rw [e] at O1
  exact ⟨T0.step ((Below.refl _ _).alloc (Nat.le_refl _) _), O1⟩
theorem shutL_le {d : PlanD} {s : StD} {c : Int} (h : planOkB d = true) : (shutL d s c).length ≤ 12 := by
  have h0 := size_ok h
  have h1 := recsOf_le d.n0 (stepG d s s.ba c) (fun i x => (⟨2, i, x⟩ : RecD))
  unfold shutL
  split
  · simp
  · split
    · simp
    · split
      · omega
      · simp
theorem releaseL_le {d : PlanD} {s : StD} (h : planOkB d = true) : (releaseL d s).length ≤ 24 := by
  have h0 := size_ok h
  have h1 := recsOf_le d.n2 (freeG d s) mntRec
  have h2 := recsOf_le d.n3 (giveG d s) (fun i _ => (⟨5, i, 0⟩ : RecD))
  unfold releaseL
  split
  · rw [List.length_append]; omega
  · simp

set_option maxRecDepth 4000 in
set_option maxHeartbeats 8000000 in
theorem l11Tick_any (pv sv : Value) (d : PlanD) (s : StD) (w : World) (hp : IsPlan w w.heap.size pv d) (hs : IsSt w w.heap.size sv s) (hok : StOk d s) :
    Calls Tryz.prog 26 #[pv, sv] w (RecsA w (tickD d s)) := by
  have HP := Lib.hid hp
  have HS := Lib.hid hs
  obtain ⟨⟨P0, P1, P2, P3, k0, k1, k2, k3, rfl, s0, s1, s2, s3⟩, b0, b1, b2, b3⟩ := hp
  obtain ⟨⟨A0, A1, A2, A3, c0, c1, c2, c3, rfl, t0, t1, t2, t3⟩, f0, f1, f2, f3⟩ := hs
  have S0 := Lib.hid s0
  have S1 := Lib.hid s1
  have S2 := Lib.hid s2
  have S3 := Lib.hid s3
  have R0 := Lib.hid t0
  have R1 := Lib.hid t1
  have R2 := Lib.hid t2
  have R3 := Lib.hid t3
  unfold maxLen at b0 b1 b2 b3 f0 f1 f2 f3
  clear s0 s1 s2 s3 t0 t1 t2 t3
  have T0 := Two.start w (planC P0 P1 P2 P3 d.n0 k0 d.n1 k1 d.n2 k2 d.n3 k3 d.l d.p d.t) (stC A0 A1 A2 A3 s.pods.length c0 s.mnts.length c1 s.devs.length c2 s.lks.length c3 s.ph s.co s.ck s.bo s.ba s.lb s.gd s.pr) 42 47
  have OK := Lib.hid hok
  clear hok
  obtain ⟨ans, hans⟩ : ∃ ans, tickD d s = ans := ⟨_, rfl⟩
  rw [hans]
  have HANS := Lib.hid hans
  clear hans
  have hC := T0.A.C
  have hD := T0.O.C
  have hck := OK.out.ck
  by_cases hsp : 1000000 ≤ s.ck
  · have H := Lib.hid hsp
    go_enter Tryz.func26, Tryz.ntmps26
    go_wp2_with fail
    refine (l10No_any 7 _).mono ?_
    rintro e w9 hR
    obtain ⟨v9, rfl, O9, K9⟩ := hR.back T0.A.K
    go_wp2
    all_goals (go_ret2; rw [← HANS.out, tickD, if_pos (by have := H.out; omega)]; exact ⟨v9, rfl, O9, K9⟩)
  · have H := Lib.hid hsp
    have HANS2 : Hid (ans = ([⟨8, s.ck + 1, 0⟩] ++ (if s.ph = 3 then shutL d s (s.ck + 1) else if s.ph = 4 then releaseL d s else []), 0)) := Lib.hid (by rw [← HANS.out, tickD, if_neg H.out]; rfl)
    obtain ⟨T1, O1⟩ := recs_one w (planC P0 P1 P2 P3 d.n0 k0 d.n1 k1 d.n2 k2 d.n3 k3 d.l d.p d.t) (stC A0 A1 A2 A3 s.pods.length c0 s.mnts.length c1 s.devs.length c2 s.lks.length c3 s.ph s.co s.ck s.bo s.ba s.lb s.gd s.pr) 42 47 8 (s.ck + 1) 0
    have HT := Lib.hid T1
    have HO := Lib.hid O1
    clear HANS T1 O1
    cases h3 : (s.ph == 3)
    case true =>
      have H3 : Hid (s.ph = 3) := Lib.hid (by simpa using h3)
      go_enter Tryz.func26, Tryz.ntmps26
      go_wp2_with fail
      refine (l11Shutting_any _ _ d s _ _ ((HP.out.below HT.out.A.K (Nat.le_refl _)).more HT.out.A.K.size) ((HS.out.below HT.out.A.K (Nat.le_refl _)).more HT.out.A.K.size) OK.out (by omega)).mono ?_
      rintro e w2 ⟨v2, rfl, O2, hb⟩
      have T2 := HT.out.step hb
      have HO2 := Lib.hid (HO.out.below hb)
      have HLE := Lib.hid (shutL_le (d := d) (s := s) (c := s.ck + 1) OK.out.plan)
      obtain ⟨A2_, c2_, rfl, hr2, R2_⟩ := O2.slv
      go_wp2_with (at_builtin; refine append_recs _ _ rfl rfl rfl HO2.out rfl hr2 R2_ (by have := HLE.out; simp; omega) T2.O.z ?_; rintro v' w' O' hb' -)
      all_goals (go_ret2; rw [HANS2.out, if_pos H3.out]; exact ⟨_, rfl, O'.base (by omega), (T2.low hb' (Nat.le_refl _)).A.K⟩)
    case false =>
      have H3 : Hid (¬ s.ph = 3) := Lib.hid (by simpa using h3)
      cases h4 : (s.ph == 4)
      case true =>
        have H4 : Hid (s.ph = 4) := Lib.hid (by simpa using h4)
        go_enter Tryz.func26, Tryz.ntmps26
        go_wp2_with fail
        refine (l11Releasing_any _ _ d s _ ((HP.out.below HT.out.A.K (Nat.le_refl _)).more HT.out.A.K.size) ((HS.out.below HT.out.A.K (Nat.le_refl _)).more HT.out.A.K.size) OK.out).mono ?_
        rintro e w2 ⟨v2, rfl, O2, hb⟩
        have T2 := HT.out.step hb
        have HO2 := Lib.hid (HO.out.below hb)
        have HLE := Lib.hid (releaseL_le (d := d) (s := s) OK.out.plan)
        obtain ⟨A2_, c2_, rfl, hr2, R2_⟩ := O2.slv
        go_wp2_with (at_builtin; refine append_recs _ _ rfl rfl rfl HO2.out rfl hr2 R2_ (by have := HLE.out; simp; omega) T2.O.z ?_; rintro v' w' O' hb' -)
        all_goals (go_ret2; rw [HANS2.out, if_neg H3.out, if_pos H4.out]; exact ⟨_, rfl, O'.base (by omega), (T2.low hb' (Nat.le_refl _)).A.K⟩)
      case false =>
        have H4 : Hid (¬ s.ph = 4) := Lib.hid (by simpa using h4)
        go_enter Tryz.func26, Tryz.ntmps26
        go_wp2
        all_goals (go_ret2; rw [HANS2.out, if_neg H3.out, if_neg H4.out]; exact ⟨_, rfl, HO.out.base (by omega), HT.out.A.K⟩)

set_option maxHeartbeats 4000000 in
theorem tickRecs_any (pv sv : Value) (d : PlanD) (s : StD) (w : World) (hp : IsPlan w w.heap.size pv d) (hs : IsSt w w.heap.size sv s) :
    Calls Tryz.prog 6 #[pv, sv] w (RecsA w (if stOkB d s then tickD d s else noR 1)) := by
  have HP := Lib.hid hp
  have HS := Lib.hid hs
  obtain ⟨⟨P0, P1, P2, P3, k0, k1, k2, k3, rfl, s0, s1, s2, s3⟩, b0, b1, b2, b3⟩ := hp
  obtain ⟨⟨A0, A1, A2, A3, c0, c1, c2, c3, rfl, t0, t1, t2, t3⟩, f0, f1, f2, f3⟩ := hs
  have S0 := Lib.hid s0
  have S1 := Lib.hid s1
  have S2 := Lib.hid s2
  have S3 := Lib.hid s3
  have R0 := Lib.hid t0
  have R1 := Lib.hid t1
  have R2 := Lib.hid t2
  have R3 := Lib.hid t3
  unfold maxLen at b0 b1 b2 b3 f0 f1 f2 f3
  clear s0 s1 s2 s3 t0 t1 t2 t3
  have T0 := Two.start w (planC P0 P1 P2 P3 d.n0 k0 d.n1 k1 d.n2 k2 d.n3 k3 d.l d.p d.t) (stC A0 A1 A2 A3 s.pods.length c0 s.mnts.length c1 s.devs.length c2 s.lks.length c3 s.ph s.co s.ck s.bo s.ba s.lb s.gd s.pr) 42 47
  obtain ⟨ans, hans⟩ : ∃ ans, (if stOkB d s then tickD d s else noR 1) = ans := ⟨_, rfl⟩
  rw [hans]
  have HANS := Lib.hid hans
  clear hans
  go_enter Tryz.func6, Tryz.ntmps6
  go_wp2_with fail
  refine (specStateOk_any _ _ d s _ ((HP.out.below T0.A.K (Nat.le_refl _)).more T0.A.K.size) ((HS.out.below T0.A.K (Nat.le_refl _)).more T0.A.K.size)).mono ?_
  rintro e w1 ⟨rfl, hb⟩
  have T1 := T0.step hb
  have hC := T1.A.C
  have hD := T1.O.C
  clear hb T0
  cases hok : stOkB d s
  · have OKB : Hid (¬ stOkB d s = true) := Lib.hid (by rw [hok]; decide)
    clear hok
    go_wp2_with fail
    refine (l10No_any 1 _).mono ?_
    rintro e w9 hR
    obtain ⟨v9, rfl, O9, K9⟩ := hR.back T1.A.K
    go_wp2
    all_goals (go_ret2; rw [← HANS.out, if_neg OKB.out]; exact ⟨v9, rfl, O9, K9⟩)
  · have OK := Lib.hid (stOkB_iff.1 hok)
    have OKB := Lib.hid hok
    clear hok
    go_wp2_with fail
    refine (l11Tick_any _ _ d s _ ((HP.out.below T1.A.K (Nat.le_refl _)).more T1.A.K.size) ((HS.out.below T1.A.K (Nat.le_refl _)).more T1.A.K.size) OK.out).mono ?_
    rintro e w9 hR
    obtain ⟨v9, rfl, O9, K9⟩ := hR.back T1.A.K
    go_wp2
    all_goals (go_ret2; rw [← HANS.out, if_pos OKB.out]; exact ⟨v9, rfl, O9, K9⟩)

end Go.Proofs.YtdphpjnecjofeaaGreat
/- Ia -/
set_option linter.unusedVariables false
namespace Go.Proofs.YtdphpjnecjofeaaGreat
open Go.RowKit

/-- The cells of a tick: its plan's, its state's, its clock, what it has collected. -/
abbrev tkC (P0 P1 P2 P3 : Option Addr) (n0 k0 n1 k1 n2 k2 n3 k3 : Nat) (l p t : Int) (A0 A1 A2 A3 : Option Addr) (m0 c0 m1 c1 m2 c2 m3 c3 : Nat) (ph : Int) (co : Bool) (ck bo ba lb gd pr clk : Int) (v : Value) : Array Value :=
  #[.slice P0 n0 k0, .slice P1 n1 k1, .slice P2 n2 k2, .slice P3 n3 k3, .int .i64 l, .int .i64 p, .int .i64 t,
    .int .i64 ph, .bool co, .int .i64 ck, .int .i64 bo, .int .i64 ba, .int .i64 lb, .slice A0 m0 c0, .slice A1 m1 c1, .slice A2 m2 c2, .slice A3 m3 c3, .int .i64 gd, .int .i64 pr, .int .i64 clk, v]
/-- A box of a tick, the call's own. -/
def BoxTk (w : World) (B g : Nat) (xs : List Value) : Prop := w.ownsRow B 74 21 (.slice (some ⟨g, 0, none⟩) 1 1) 1 xs
theorem BoxTk.new {W : World} {B g : Nat} {cs : Array Value} (hg : W.heap.size = g) (hB : B ≤ W.heap.size) (hl : cs.size = 21) : BoxTk (W.alloc (.cells cs 74)) B g cs.toList := by
  subst hg
  exact own_of_heap (cur := cs) (heap_alloc_new W _) (by simp) (by simp [hl]) hB (by unfold maxLen; decide)
theorem BoxTk.at_ {w : World} {B g : Nat} {xs : List Value} (h : BoxTk w B g xs) (o : Nat) (ho : o < 21) : w.cell? ⟨g, o, none⟩ = xs[o]? := World.ownsRow.cellAt h o (by omega)
theorem BoxTk.C {w : World} {B g : Nat} {cs : Array Value} (h : BoxTk w B g cs.toList) : ∀ o, w.cell? ⟨g, o, none⟩ = cs[o]? := by
  intro o
  obtain ⟨hl, ⟨hv, _⟩ | ⟨g', cap, cur, hv, hb, hh, hnc, hcm, hsz, ht⟩⟩ := id h
  · cases hv
  · injection hv with h1 h2 h3
    injection h1 with h1
    injection h1 with h1 _ _
    subst h1 h3
    by_cases ho : o < 21
    · rw [h.at_ o ho, Array.getElem?_toList]
    · rw [cell_of_row _ _ _ _ _ _ hh, Array.getElem?_eq_none (by omega), Array.getElem?_eq_none (by simpa using (by omega : cs.toList.length ≤ o))]
theorem BoxTk.frozen {w : World} {B g : Nat} {xs : List Value} (h : BoxTk w B g xs) (o : Nat) : w.frozen? ⟨g, o, none⟩ = false := World.ownsRow.frozenAt h o
theorem BoxTk.lt {w : World} {B g : Nat} {xs : List Value} (h : BoxTk w B g xs) : B ≤ g ∧ g < w.heap.size := World.ownsRow.lt h g rfl
theorem BoxTk.go {w w' : World} {B g : Nat} {xs : List Value} (h : BoxTk w B g xs) (hb : Below w.heap.size w w') : BoxTk w' B g xs := ownsRow_below h hb
theorem keeps_setT (w : World) (g o : Nat) (u : Value) : Keeps (· = g) w (w.setCell ⟨g, o, none⟩ u) := (Keeps.refl (· = g) w).set rfl u

/-- Rows but of ticks and of records are as they were. -/
def KRow (W W' : World) : Prop := ∀ (B e k n : Nat) (u : Value) (xs : List Value), e ≠ 74 → e ≠ 77 → W.ownsRow B e k u n xs → W'.ownsRow B e k u n xs
theorem KRow.refl (W : World) : KRow W W := fun _ _ _ _ _ _ _ _ h => h
theorem KRow.trans {a b c : World} (h : KRow a b) (h' : KRow b c) : KRow a c := fun B e k n u xs h1 h2 x => h' B e k n u xs h1 h2 (h B e k n u xs h1 h2 x)
theorem KRow.step {a b c : World} (h : KRow a b) (hb : Below b.heap.size b c) : KRow a c := fun B e k n u xs h1 h2 x => ownsRow_below (h B e k n u xs h1 h2 x) hb
theorem KRow.row {a b c : World} {B e k n : Nat} {v : Value} {xs : List Value} (h : KRow a b) (O : b.ownsRow B e k v n xs) (he : e = 74 ∨ e = 77) (kp : Keeps (fun q => v.ownBlock = some q) b c) : KRow a c := fun B' e' k' n' u ys h1 h2 x =>
  ownsRow_keeps (h B' e' k' n' u ys h1 h2 x) kp fun r hr hv => by
    have := row_type (h B' e' k' n' u ys h1 h2 x) O hr hv
    rcases he with rfl | rfl
    · exact h1 this
    · exact h2 this

/-- A tick in its box: of a plan and a state that can be read below w0; what it has collected is its own. -/
def Tk (w0 W : World) (g : Nat) (d : PlanD) (s : StD) (l : List RecD) : Prop :=
  Below w0.heap.size w0 W ∧ ∃ pv sv v, IsPlan w0 w0.heap.size pv d ∧ IsSt w0 w0.heap.size sv s ∧ (∃ pc sc : Array Value, pv = .agg pc ∧ sv = .agg sc ∧ BoxTk W w0.heap.size g (pc.toList ++ (sc.toList ++ [.int .i64 (s.ck + 1), v]))) ∧ OR W w0.heap.size v l
theorem Tk.step {w0 W W' : World} {g : Nat} {d : PlanD} {s : StD} {l : List RecD} (h : Tk w0 W g d s l) (hb : Below W.heap.size W W') : Tk w0 W' g d s l := by
  obtain ⟨K, pv, sv, v, hp, hs, ⟨pc, sc, ep, es, X⟩, O⟩ := h
  exact ⟨K.trans (hb.mono K.size), pv, sv, v, hp, hs, ⟨pc, sc, ep, es, X.go hb⟩, O.below hb⟩
/-- What a method that collects answers. -/
def TkP (w0 W : World) (g : Nat) (d : PlanD) (s : StD) (l : List RecD) (e : Ending) (w' : World) : Prop := e = .returned (.tuple #[]) ∧ Tk w0 w' g d s l ∧ KRow W w'

set_option maxRecDepth 100000 in
set_option maxHeartbeats 8000000 in
theorem collect_any (w0 W : World) (g : Nat) (d : PlanD) (s : StD) (l : List RecD) (k a b : Int) (h : Tk w0 W g d s l) (hl : l.length ≤ 100) :
    Calls Tryz.prog 35 #[.pointer (some ⟨g, 0, none⟩), .agg #[.int .i64 k, .int .i64 a, .int .i64 b]] W (TkP w0 W g d s (l ++ [⟨k, a, b⟩])) := by
  obtain ⟨K, pv, sv, v, hp, hs, ⟨pc, sc, ep, es, X⟩, O⟩ := h
  have HP := Lib.hid hp
  have HS := Lib.hid hs
  obtain ⟨⟨P0, P1, P2, P3, k0, k1, k2, k3, rfl, s0, s1, s2, s3⟩, b0, b1, b2, b3⟩ := hp
  obtain ⟨⟨A0, A1, A2, A3, c0, c1, c2, c3, rfl, t0, t1, t2, t3⟩, f0, f1, f2, f3⟩ := hs
  injection ep with ep
  injection es with es
  subst ep es
  clear s0 s1 s2 s3 t0 t1 t2 t3 b0 b1 b2 b3 f0 f1 f2 f3
  obtain ⟨A, c, rfl, -, -⟩ := O.slv
  obtain ⟨i0, hi, hz0, hz1, hz2⟩ := info_parts info_rec
  replace X : BoxTk W w0.heap.size g (tkC P0 P1 P2 P3 d.n0 k0 d.n1 k1 d.n2 k2 d.n3 k3 d.l d.p d.t A0 A1 A2 A3 s.pods.length c0 s.mnts.length c1 s.devs.length c2 s.lks.length c3 s.ph s.co s.ck s.bo s.ba s.lb s.gd s.pr (s.ck + 1) (.slice A l.length c)).toList := X
  have hb := (Below.refl W.heap.size W).alloc (Nat.le_refl _) (.cells #[.int .i64 k, .int .i64 a, .int .i64 b] 77)
  have KR := (KRow.refl W).step hb
  have H3 := cell_new W #[.int .i64 k, .int .i64 a, .int .i64 b] 77
  replace X := X.go hb
  replace O := O.below hb
  replace K := K.trans (hb.mono K.size)
  clear hb
  go_enter Tryz.func35, Tryz.ntmps35
  go_upto_region 1 with fail
  generalize W.alloc (.cells #[.int .i64 k, .int .i64 a, .int .i64 b] 77) = w1 at X O K KR H3 ⊢
  generalize W.heap.size = R3 at H3 ⊢
  refine wp_region_noPanic ?_
  refine wp_region_held_drew (S := fun _ => True) (by kernel_rfl) trivial (fun _ => ?_)
  have hb : Below w1.heap.size w1 w1.drew := (Below.refl _ _).drew
  replace X := X.go hb
  replace O := O.below hb
  replace K := K.trans (hb.mono K.size)
  replace KR := KR.step hb
  replace H3 : ∀ o, w1.drew.cell? ⟨R3, o, none⟩ = (#[.int .i64 k, .int .i64 a, .int .i64 b] : Array Value)[o]? := H3
  clear hb
  generalize w1.drew = v0 at X O K KR H3 ⊢
  refine wpAnyH_take (i := 0) (v := ?_) rfl (by kernel_rfl) (by kernel_rfl) (by kernel_rfl) (fun _ _ _ h => h) (Or.inl ⟨by rfl, ?_⟩) trivial ?_
  rotate_left 1
  · intro w hSw
    clear hSw
    go_simp
    try with_reducible rfl
  change wpAnyH _ _ _ _ _ _ _ (Act.put _ (some 4) _) _
  dsimp only [Act.put]
  refine wpAnyH_take (i := 1) (v := ?_) rfl (by kernel_rfl) (by kernel_rfl) (by kernel_rfl) (fun _ _ _ h => h) (Or.inl ⟨by rfl, ?_⟩) trivial ?_
  rotate_left 1
  · intro w hSw
    clear hSw
    go_simp
    try with_reducible rfl
  change wpAnyH _ _ _ _ _ _ _ (Act.put _ (some 5) _) _
  dsimp only [Act.put]
  refine wpAnyH_take (i := 2) (v := ?_) rfl (by kernel_rfl) (by kernel_rfl) (by kernel_rfl) (fun _ _ _ h => h) (Or.inl ⟨by rfl, ?_⟩) trivial ?_
  rotate_left 1
  · intro w hSw
    clear hSw
    go_simp
    try with_reducible rfl
  change wpAnyH _ _ _ _ _ _ _ (Act.put _ (some 6) _) _
  dsimp only [Act.put]
  refine wpAnyH_take (i := 3) (v := ?_) rfl (by kernel_rfl) (by kernel_rfl) (by kernel_rfl) (fun _ _ _ h => h) (Or.inl ⟨by rfl, ?_⟩) trivial ?_
  rotate_left 1
  · intro w hSw
    clear hSw
    go_simp
    try with_reducible rfl
  change wpAnyH _ _ _ _ _ _ _ (Act.put _ (some 7) _) _
  dsimp only [Act.put]
  refine wpAnyH_ready (rs := [4, 5]) (by kernel_rfl) (by simp) ?_
  refine AllReadyH.cons rfl (fun K' hK => ?_) ?_
  · skip
    have hC := X.C
    go_simp
    clear hC
    refine hK.out _ _ trivial (fun _ => ?_)
    clear hK K'
    try (change wpAnyH _ _ _ _ _ _ _ (Act.put _ (some 8) _) _; dsimp only [Act.put])
    refine wpAnyH_ready (rs := [5]) (by kernel_rfl) (by simp) ?_
    refine AllReadyH.cons rfl (fun K' hK => ?_) AllReadyH.nil
    go_simp
    refine hK.out _ _ trivial (fun _ => ?_)
    clear hK K'
    try (change wpAnyH _ _ _ _ _ _ _ (Act.put _ (some 9) _) _; dsimp only [Act.put])
    refine wpAnyH_ready (rs := [6]) (by kernel_rfl) (by simp) ?_
    refine AllReadyH.cons rfl (fun K' hK => ?_) AllReadyH.nil
    go_simp
    have HN := heap_alloc_new v0 (.cells #[.int .i64 k, .int .i64 a, .int .i64 b] 77)
    have hb := (Below.refl v0.heap.size v0).alloc (Nat.le_refl _) (.cells #[.int .i64 k, .int .i64 a, .int .i64 b] 77)
    replace X := X.go hb
    replace O := O.below hb
    replace K := K.trans (hb.mono K.size)
    replace KR := KR.step hb
    clear hb H3
    obtain ⟨v1, hwv⟩ : ∃ W, v0.alloc (.cells #[.int .i64 k, .int .i64 a, .int .i64 b] 77) = W := ⟨_, rfl⟩
    rw [hwv] at HN X O K KR ⊢
    clear hwv
    obtain ⟨R8, hR8⟩ : ∃ R, v0.heap.size = R := ⟨_, rfl⟩
    rw [hR8] at HN ⊢
    clear hR8
    refine hK.out _ _ trivial (fun _ => ?_)
    clear hK K'
    try (change wpAnyH _ _ _ _ _ _ _ (Act.put _ (some 10) _) _; dsimp only [Act.put])
    refine wpAnyH_ready (rs := [7]) (by kernel_rfl) (by simp) ?_
    refine AllReadyH.cons rfl (fun K' hK => ?_) AllReadyH.nil
    refine step_append_lies _ rfl (.tmp 8) (.tmp 10) 35 rfl w0.heap.size 77 i0 (.agg #[.int .i64 0, .int .i64 0, .int .i64 0]) 3 24 Tryz.underlying35 hi hz0 hz1 hz2 rfl (by decide) (.slice A l.length c) l.length (recVs l) rfl O ⟨R8, 0, none⟩ 1 1 [.int .i64 k, .int .i64 a, .int .i64 b] rfl rfl (World.news_of_block HN) (by simp [Value.oneCell']) (by decide) (by unfold maxLen; omega) (by omega) K.size _ rfl ?_
    rintro g2 cap v2 hown hgrow - -
    have kp : Keeps (fun b => (Value.slice A l.length c).ownBlock = some b) v1 v2 := ⟨hgrow.os, hgrow.tape, hgrow.output, hgrow.size, fun b hb hn => hgrow.block b hb fun e => hn e.symm⟩
    replace K := K.trans ((Below.refl _ _).grown hgrow K.size fun r hr => (O.lt hr).1)
    replace X : BoxTk _ _ _ _ := ownsRow_keeps X kp fun r hr e => absurd (row_type X O hr e) (by decide)
    replace KR := KR.row O (.inr rfl) kp
    have O2 : OR v2 w0.heap.size (.slice (some ⟨g2, 0, none⟩) (l.length + 1) cap) (l ++ [⟨k, a, b⟩]) := by
      unfold OR
      rw [List.length_append, recVs_append]
      exact hown
    clear O HN hgrow kp hown
    refine hK.out _ _ trivial (fun _ => ?_)
    clear hK K'
    try (change wpAnyH _ _ _ _ _ _ _ (Act.put _ (some 11) _) _; dsimp only [Act.put])
    refine wpAnyH_take (i := 8) (v := ?_) rfl (by kernel_rfl) (by kernel_rfl) (by kernel_rfl) (fun _ _ _ h => h) (Or.inl ⟨by rfl, ?_⟩) trivial ?_
    rotate_left 1
    · intro w hSw
      clear hSw
      go_simp
      try with_reducible rfl
    change wpAnyH _ _ _ _ _ _ _ (Act.put _ (some 12) _) _
    dsimp only [Act.put]
    refine wpAnyH_take (i := 9) (v := ?_) rfl (by kernel_rfl) (by kernel_rfl) (by kernel_rfl) (fun _ _ _ h => h) (Or.inl ⟨by rfl, ?_⟩) trivial ?_
    rotate_left 1
    · intro w hSw
      clear hSw
      go_simp
      try with_reducible rfl
    change wpAnyH _ _ _ _ _ _ _ (Act.put _ (some 13) _) _
    dsimp only [Act.put]
    refine wpAnyH_ready (rs := [10]) (by kernel_rfl) (by simp) ?_
    refine AllReadyH.cons rfl (fun K' hK => ?_) AllReadyH.nil
    have hC := X.C
    have hF := X.frozen
    go_simp
    clear hC hF
    have kp : Keeps (fun b => (Value.slice (some ⟨g, 0, none⟩) 1 1).ownBlock = some b) v2 (v2.setCell ⟨g, 20, none⟩ (.slice (some ⟨g2, 0, none⟩) (l.length + 1) cap)) := (keeps_setT v2 g 20 _).mono fun b e => by rw [e]; rfl
    replace K := K.setCell (p := ⟨g, 20, none⟩) X.lt.1 (.slice (some ⟨g2, 0, none⟩) (l.length + 1) cap)
    replace KR := KR.row X (.inl rfl) kp
    replace O2 : OR _ _ _ _ := ownsRow_keeps O2 kp fun r hr e => absurd (row_type O2 X hr e) (by decide)
    replace X := (World.ownsRow.stored X 20 (.slice (some ⟨g2, 0, none⟩) (l.length + 1) cap)).1
    clear kp
    generalize v2.setCell ⟨g, 20, none⟩ (.slice (some ⟨g2, 0, none⟩) (l.length + 1) cap) = v3 at X O2 K KR ⊢
    refine hK.out _ _ trivial (fun _ => ?_)
    clear hK K'
    try (change wpAnyH _ _ _ _ _ _ _ (Act.put _ none _) _; dsimp only [Act.put])
    refine wpAnyH_done (by kernel_rfl) ?_ _
    refine NoPanic.normal ?_
    go_wp2_with fail
    refine bodyPost_ret (v := .tuple #[]) (by simp [results, Tryz.results35, go_sem]) rfl ?_
    exact ⟨rfl, ⟨K, _, _, _, HP.out, HS.out, ⟨_, _, rfl, rfl, X⟩, O2⟩, KR⟩
  refine AllReadyH.cons rfl (fun K' hK => ?_) AllReadyH.nil
  go_simp
  refine hK.out _ _ trivial (fun _ => ?_)
  clear hK K'
  try (change wpAnyH _ _ _ _ _ _ _ (Act.put _ (some 9) _) _; dsimp only [Act.put])
  refine wpAnyH_ready (rs := [4, 6]) (by kernel_rfl) (by simp) ?_
  refine AllReadyH.cons rfl (fun K' hK => ?_) ?_
  · skip
    have hC := X.C
    go_simp
    clear hC
    refine hK.out _ _ trivial (fun _ => ?_)
    clear hK K'
    try (change wpAnyH _ _ _ _ _ _ _ (Act.put _ (some 8) _) _; dsimp only [Act.put])
    refine wpAnyH_ready (rs := [6]) (by kernel_rfl) (by simp) ?_
    refine AllReadyH.cons rfl (fun K' hK => ?_) AllReadyH.nil
    go_simp
    have HN := heap_alloc_new v0 (.cells #[.int .i64 k, .int .i64 a, .int .i64 b] 77)
    have hb := (Below.refl v0.heap.size v0).alloc (Nat.le_refl _) (.cells #[.int .i64 k, .int .i64 a, .int .i64 b] 77)
    replace X := X.go hb
    replace O := O.below hb
    replace K := K.trans (hb.mono K.size)
    replace KR := KR.step hb
    clear hb H3
    obtain ⟨v1, hwv⟩ : ∃ W, v0.alloc (.cells #[.int .i64 k, .int .i64 a, .int .i64 b] 77) = W := ⟨_, rfl⟩
    rw [hwv] at HN X O K KR ⊢
    clear hwv
    obtain ⟨R8, hR8⟩ : ∃ R, v0.heap.size = R := ⟨_, rfl⟩
    rw [hR8] at HN ⊢
    clear hR8
    refine hK.out _ _ trivial (fun _ => ?_)
    clear hK K'
    try (change wpAnyH _ _ _ _ _ _ _ (Act.put _ (some 10) _) _; dsimp only [Act.put])
    refine wpAnyH_ready (rs := [7]) (by kernel_rfl) (by simp) ?_
    refine AllReadyH.cons rfl (fun K' hK => ?_) AllReadyH.nil
    refine step_append_lies _ rfl (.tmp 8) (.tmp 10) 35 rfl w0.heap.size 77 i0 (.agg #[.int .i64 0, .int .i64 0, .int .i64 0]) 3 24 Tryz.underlying35 hi hz0 hz1 hz2 rfl (by decide) (.slice A l.length c) l.length (recVs l) rfl O ⟨R8, 0, none⟩ 1 1 [.int .i64 k, .int .i64 a, .int .i64 b] rfl rfl (World.news_of_block HN) (by simp [Value.oneCell']) (by decide) (by unfold maxLen; omega) (by omega) K.size _ rfl ?_
    rintro g2 cap v2 hown hgrow - -
    have kp : Keeps (fun b => (Value.slice A l.length c).ownBlock = some b) v1 v2 := ⟨hgrow.os, hgrow.tape, hgrow.output, hgrow.size, fun b hb hn => hgrow.block b hb fun e => hn e.symm⟩
    replace K := K.trans ((Below.refl _ _).grown hgrow K.size fun r hr => (O.lt hr).1)
    replace X : BoxTk _ _ _ _ := ownsRow_keeps X kp fun r hr e => absurd (row_type X O hr e) (by decide)
    replace KR := KR.row O (.inr rfl) kp
    have O2 : OR v2 w0.heap.size (.slice (some ⟨g2, 0, none⟩) (l.length + 1) cap) (l ++ [⟨k, a, b⟩]) := by
      unfold OR
      rw [List.length_append, recVs_append]
      exact hown
    clear O HN hgrow kp hown
    refine hK.out _ _ trivial (fun _ => ?_)
    clear hK K'
    try (change wpAnyH _ _ _ _ _ _ _ (Act.put _ (some 11) _) _; dsimp only [Act.put])
    refine wpAnyH_take (i := 8) (v := ?_) rfl (by kernel_rfl) (by kernel_rfl) (by kernel_rfl) (fun _ _ _ h => h) (Or.inl ⟨by rfl, ?_⟩) trivial ?_
    rotate_left 1
    · intro w hSw
      clear hSw
      go_simp
      try with_reducible rfl
    change wpAnyH _ _ _ _ _ _ _ (Act.put _ (some 12) _) _
    dsimp only [Act.put]
    refine wpAnyH_take (i := 9) (v := ?_) rfl (by kernel_rfl) (by kernel_rfl) (by kernel_rfl) (fun _ _ _ h => h) (Or.inl ⟨by rfl, ?_⟩) trivial ?_
    rotate_left 1
    · intro w hSw
      clear hSw
      go_simp
      try with_reducible rfl
    change wpAnyH _ _ _ _ _ _ _ (Act.put _ (some 13) _) _
    dsimp only [Act.put]
    refine wpAnyH_ready (rs := [10]) (by kernel_rfl) (by simp) ?_
    refine AllReadyH.cons rfl (fun K' hK => ?_) AllReadyH.nil
    have hC := X.C
    have hF := X.frozen
    go_simp
    clear hC hF
    have kp : Keeps (fun b => (Value.slice (some ⟨g, 0, none⟩) 1 1).ownBlock = some b) v2 (v2.setCell ⟨g, 20, none⟩ (.slice (some ⟨g2, 0, none⟩) (l.length + 1) cap)) := (keeps_setT v2 g 20 _).mono fun b e => by rw [e]; rfl
    replace K := K.setCell (p := ⟨g, 20, none⟩) X.lt.1 (.slice (some ⟨g2, 0, none⟩) (l.length + 1) cap)
    replace KR := KR.row X (.inl rfl) kp
    replace O2 : OR _ _ _ _ := ownsRow_keeps O2 kp fun r hr e => absurd (row_type O2 X hr e) (by decide)
    replace X := (World.ownsRow.stored X 20 (.slice (some ⟨g2, 0, none⟩) (l.length + 1) cap)).1
    clear kp
    generalize v2.setCell ⟨g, 20, none⟩ (.slice (some ⟨g2, 0, none⟩) (l.length + 1) cap) = v3 at X O2 K KR ⊢
    refine hK.out _ _ trivial (fun _ => ?_)
    clear hK K'
    try (change wpAnyH _ _ _ _ _ _ _ (Act.put _ none _) _; dsimp only [Act.put])
    refine wpAnyH_done (by kernel_rfl) ?_ _
    refine NoPanic.normal ?_
    go_wp2_with fail
    refine bodyPost_ret (v := .tuple #[]) (by simp [results, Tryz.results35, go_sem]) rfl ?_
    exact ⟨rfl, ⟨K, _, _, _, HP.out, HS.out, ⟨_, _, rfl, rfl, X⟩, O2⟩, KR⟩
  refine AllReadyH.cons rfl (fun K' hK => ?_) AllReadyH.nil
  go_simp
  have HN := heap_alloc_new v0 (.cells #[.int .i64 k, .int .i64 a, .int .i64 b] 77)
  have hb := (Below.refl v0.heap.size v0).alloc (Nat.le_refl _) (.cells #[.int .i64 k, .int .i64 a, .int .i64 b] 77)
  replace X := X.go hb
  replace O := O.below hb
  replace K := K.trans (hb.mono K.size)
  replace KR := KR.step hb
  clear hb H3
  obtain ⟨v1, hwv⟩ : ∃ W, v0.alloc (.cells #[.int .i64 k, .int .i64 a, .int .i64 b] 77) = W := ⟨_, rfl⟩
  rw [hwv] at HN X O K KR ⊢
  clear hwv
  obtain ⟨R8, hR8⟩ : ∃ R, v0.heap.size = R := ⟨_, rfl⟩
  rw [hR8] at HN ⊢
  clear hR8
  refine hK.out _ _ trivial (fun _ => ?_)
  clear hK K'
  try (change wpAnyH _ _ _ _ _ _ _ (Act.put _ (some 10) _) _; dsimp only [Act.put])
  refine wpAnyH_ready (rs := [4]) (by kernel_rfl) (by simp) ?_
  refine AllReadyH.cons rfl (fun K' hK => ?_) AllReadyH.nil
  have hC := X.C
  go_simp
  clear hC
  refine hK.out _ _ trivial (fun _ => ?_)
  clear hK K'
  try (change wpAnyH _ _ _ _ _ _ _ (Act.put _ (some 8) _) _; dsimp only [Act.put])
  refine wpAnyH_ready (rs := [7]) (by kernel_rfl) (by simp) ?_
  refine AllReadyH.cons rfl (fun K' hK => ?_) AllReadyH.nil
  refine step_append_lies _ rfl (.tmp 8) (.tmp 10) 35 rfl w0.heap.size 77 i0 (.agg #[.int .i64 0, .int .i64 0, .int .i64 0]) 3 24 Tryz.underlying35 hi hz0 hz1 hz2 rfl (by decide) (.slice A l.length c) l.length (recVs l) rfl O ⟨R8, 0, none⟩ 1 1 [.int .i64 k, .int .i64 a, .int .i64 b] rfl rfl (World.news_of_block HN) (by simp [Value.oneCell']) (by decide) (by unfold maxLen; omega) (by omega) K.size _ rfl ?_
  rintro g2 cap v2 hown hgrow - -
  have kp : Keeps (fun b => (Value.slice A l.length c).ownBlock = some b) v1 v2 := ⟨hgrow.os, hgrow.tape, hgrow.output, hgrow.size, fun b hb hn => hgrow.block b hb fun e => hn e.symm⟩
  replace K := K.trans ((Below.refl _ _).grown hgrow K.size fun r hr => (O.lt hr).1)
  replace X : BoxTk _ _ _ _ := ownsRow_keeps X kp fun r hr e => absurd (row_type X O hr e) (by decide)
  replace KR := KR.row O (.inr rfl) kp
  have O2 : OR v2 w0.heap.size (.slice (some ⟨g2, 0, none⟩) (l.length + 1) cap) (l ++ [⟨k, a, b⟩]) := by
    unfold OR
    rw [List.length_append, recVs_append]
    exact hown
  clear O HN hgrow kp hown
  refine hK.out _ _ trivial (fun _ => ?_)
  clear hK K'
  try (change wpAnyH _ _ _ _ _ _ _ (Act.put _ (some 11) _) _; dsimp only [Act.put])
  refine wpAnyH_take (i := 8) (v := ?_) rfl (by kernel_rfl) (by kernel_rfl) (by kernel_rfl) (fun _ _ _ h => h) (Or.inl ⟨by rfl, ?_⟩) trivial ?_
  rotate_left 1
  · intro w hSw
    clear hSw
    go_simp
    try with_reducible rfl
  change wpAnyH _ _ _ _ _ _ _ (Act.put _ (some 12) _) _
  dsimp only [Act.put]
  refine wpAnyH_take (i := 9) (v := ?_) rfl (by kernel_rfl) (by kernel_rfl) (by kernel_rfl) (fun _ _ _ h => h) (Or.inl ⟨by rfl, ?_⟩) trivial ?_
  rotate_left 1
  · intro w hSw
    clear hSw
    go_simp
    try with_reducible rfl
  change wpAnyH _ _ _ _ _ _ _ (Act.put _ (some 13) _) _
  dsimp only [Act.put]
  refine wpAnyH_ready (rs := [10]) (by kernel_rfl) (by simp) ?_
  refine AllReadyH.cons rfl (fun K' hK => ?_) AllReadyH.nil
  have hC := X.C
  have hF := X.frozen
  go_simp
  clear hC hF
  have kp : Keeps (fun b => (Value.slice (some ⟨g, 0, none⟩) 1 1).ownBlock = some b) v2 (v2.setCell ⟨g, 20, none⟩ (.slice (some ⟨g2, 0, none⟩) (l.length + 1) cap)) := (keeps_setT v2 g 20 _).mono fun b e => by rw [e]; rfl
  replace K := K.setCell (p := ⟨g, 20, none⟩) X.lt.1 (.slice (some ⟨g2, 0, none⟩) (l.length + 1) cap)
  replace KR := KR.row X (.inl rfl) kp
  replace O2 : OR _ _ _ _ := ownsRow_keeps O2 kp fun r hr e => absurd (row_type O2 X hr e) (by decide)
  replace X := (World.ownsRow.stored X 20 (.slice (some ⟨g2, 0, none⟩) (l.length + 1) cap)).1
  clear kp
  generalize v2.setCell ⟨g, 20, none⟩ (.slice (some ⟨g2, 0, none⟩) (l.length + 1) cap) = v3 at X O2 K KR ⊢
  refine hK.out _ _ trivial (fun _ => ?_)
  clear hK K'
  try (change wpAnyH _ _ _ _ _ _ _ (Act.put _ none _) _; dsimp only [Act.put])
  refine wpAnyH_done (by kernel_rfl) ?_ _
  refine NoPanic.normal ?_
  go_wp2_with fail
  refine bodyPost_ret (v := .tuple #[]) (by simp [results, Tryz.results35, go_sem]) rfl ?_
  exact ⟨rfl, ⟨K, _, _, _, HP.out, HS.out, ⟨_, _, rfl, rfl, X⟩, O2⟩, KR⟩
end Go.Proofs.YtdphpjnecjofeaaGreat
/- Ib -/
set_option linter.unusedVariables false
namespace Go.Proofs.YtdphpjnecjofeaaGreat
open Go.RowKit

theorem toW {w0 W W' : World} (K : Below w0.heap.size w0 W) (hb : Below W.heap.size W W') : Below w0.heap.size w0 W' := K.trans (hb.mono K.size)
theorem planAt {w0 W : World} {v : Value} {d : PlanD} (h : IsPlan w0 w0.heap.size v d) (K : Below w0.heap.size w0 W) : IsPlan W W.heap.size v d := (h.below K (Nat.le_refl _)).more K.size
theorem stAt {w0 W : World} {v : Value} {s : StD} (h : IsSt w0 w0.heap.size v s) (K : Below w0.heap.size w0 W) : IsSt W W.heap.size v s := (h.below K (Nat.le_refl _)).more K.size
/-- Is a lock waited for? -/
def waitsB (s : StD) : Bool := decide (0 < s.lks.length) && decide (s.ck + 1 < s.lb)
theorem waitsB_iff {s : StD} : waitsB s = true ↔ s.lks ≠ [] ∧ s.ck + 1 < s.lb := by
  unfold waitsB
  rw [Bool.and_eq_true, decide_eq_true_eq, decide_eq_true_eq, List.length_pos_iff]

set_option maxRecDepth 100000 in
set_option maxHeartbeats 8000000 in
theorem waits_any (w0 W : World) (g : Nat) (d : PlanD) (s : StD) (l : List RecD) (h : Tk w0 W g d s l) :
    Calls Tryz.prog 68 #[.pointer (some ⟨g, 0, none⟩)] W fun e w' => e = .returned (.bool (waitsB s)) ∧ Below W.heap.size W w' := by
  obtain ⟨K, pv, sv, v, hp, hs, ⟨pc, sc, ep, es, X⟩, O⟩ := h
  have HP := Lib.hid hp
  have HS := Lib.hid hs
  obtain ⟨⟨P0, P1, P2, P3, k0, k1, k2, k3, rfl, s0, s1, s2, s3⟩, b0, b1, b2, b3⟩ := hp
  obtain ⟨⟨A0, A1, A2, A3, c0, c1, c2, c3, rfl, t0, t1, t2, t3⟩, f0, f1, f2, f3⟩ := hs
  injection ep with ep
  injection es with es
  subst ep es
  unfold maxLen at b0 b1 b2 b3 f0 f1 f2 f3
  replace X : BoxTk W w0.heap.size g (tkC P0 P1 P2 P3 d.n0 k0 d.n1 k1 d.n2 k2 d.n3 k3 d.l d.p d.t A0 A1 A2 A3 s.pods.length c0 s.mnts.length c1 s.devs.length c2 s.lks.length c3 s.ph s.co s.ck s.bo s.ba s.lb s.gd s.pr (s.ck + 1) v).toList := X
  clear s0 s1 s2 s3 t0 t1 t2 t3
  have hC := X.C
  obtain ⟨ans, hans⟩ : ∃ ans, waitsB s = ans := ⟨_, rfl⟩
  rw [hans]
  have HANS := Lib.hid hans
  have HU : Hid (waitsB s = (decide (0 < s.lks.length) && decide (s.ck + 1 < s.lb))) := Lib.hid rfl
  clear hans
  by_cases hl : 0 < s.lks.length
  · have hl2 : (0 : Int) < s.lks.length := by omega
    by_cases hb : s.ck + 1 < s.lb
    · have HA : Hid (ans = true) := Lib.hid (by rw [← HANS.out, HU.out]; simp [hl, hb])
      go_enter Tryz.func68, Tryz.ntmps68
      go_wp2_with fail
      go_quiet (fail)
      go_wp2
      all_goals (go_ret; exact ⟨ret_bool HA.out.symm, below_drewN (Below.refl _ _) _⟩)
    · have HA : Hid (ans = false) := Lib.hid (by rw [← HANS.out, HU.out]; simp [hb])
      go_enter Tryz.func68, Tryz.ntmps68
      go_wp2_with fail
      go_quiet (fail)
      go_wp2
      all_goals (go_ret; exact ⟨ret_bool (by rw [HA.out]; first | rfl | simp [hb]), below_drewN (Below.refl _ _) _⟩)
  · have hl2 : ¬ (0 : Int) < s.lks.length := by omega
    have HA : Hid (ans = false) := Lib.hid (by rw [← HANS.out, HU.out]; simp [hl])
    go_enter Tryz.func68, Tryz.ntmps68
    go_wp2_with fail
    go_quiet (fail)
    go_wp2
    all_goals (go_ret; exact ⟨ret_bool HA.out.symm, below_drewN (Below.refl _ _) _⟩)

theorem any_take_no {L : List Int} {p : Int → Bool} {k : Nat} {x : Int} (hx : L[k]? = some x) (h : (L.take k).any p = false) (hp : p x = false) : (L.take (k + 1)).any p = false := by
  rw [take_at hx, List.any_append, h]
  simp [hp]
theorem any_take_yes {L : List Int} {p : Int → Bool} {k : Nat} {x : Int} (hx : L[k]? = some x) (hp : p x = true) : L.any p = true := List.any_eq_true.2 ⟨x, List.mem_of_getElem? hx, hp⟩
set_option maxRecDepth 100000 in
set_option maxHeartbeats 8000000 in
theorem anyAlive_any (w0 W : World) (g : Nat) (d : PlanD) (s : StD) (l : List RecD) (h : Tk w0 W g d s l) (hok : StOk d s) (B cL : Nat) (AL : Option Addr) (L : List Int)
    (hL : W.ownsRow B 2 1 (.slice AL L.length cL) L.length (L.map (Value.int .i64))) (hin : ∀ k, k < L.length → ∃ i : Nat, L[k]? = some (i : Int) ∧ i < d.n0) (hlen : L.length ≤ 12) :
    Calls Tryz.prog 69 #[.pointer (some ⟨g, 0, none⟩), .slice AL L.length cL] W fun e w' => e = .returned (.bool (L.any fun i => aliveB (podAt s i.toNat).1)) ∧ Below W.heap.size W w' := by
  obtain ⟨K, pv, sv, v, hp, hs, ⟨pc, sc, ep, es, X⟩, O⟩ := h
  have HP := Lib.hid hp
  have HS := Lib.hid hs
  obtain ⟨⟨P0, P1, P2, P3, k0, k1, k2, k3, rfl, s0, s1, s2, s3⟩, b0, b1, b2, b3⟩ := hp
  obtain ⟨⟨A0, A1, A2, A3, c0, c1, c2, c3, rfl, t0, t1, t2, t3⟩, f0, f1, f2, f3⟩ := hs
  injection ep with ep
  injection es with es
  subst ep es
  unfold maxLen at b0 b1 b2 b3 f0 f1 f2 f3
  replace X : BoxTk W w0.heap.size g (tkC P0 P1 P2 P3 d.n0 k0 d.n1 k1 d.n2 k2 d.n3 k3 d.l d.p d.t A0 A1 A2 A3 s.pods.length c0 s.mnts.length c1 s.devs.length c2 s.lks.length c3 s.ph s.co s.ck s.bo s.ba s.lb s.gd s.pr (s.ck + 1) v).toList := X
  have S0 := Lib.hid s0
  have S1 := Lib.hid s1
  have S2 := Lib.hid s2
  have S3 := Lib.hid s3
  have R0 := Lib.hid t0
  have R1 := Lib.hid t1
  have R2 := Lib.hid t2
  have R3 := Lib.hid t3
  clear s0 s1 s2 s3 t0 t1 t2 t3
  have hC := X.C
  have HL := Lib.hid hL
  have HIN := Lib.hid hin
  have HNP := Lib.hid hok.np
  have HK := Lib.hid K
  obtain ⟨ans, hans⟩ : ∃ ans, (L.any fun i => aliveB (podAt s i.toNat).1) = ans := ⟨_, rfl⟩
  rw [hans]
  have HANS := Lib.hid hans
  clear hans hL hin hok O X
  go_enter Tryz.func69, Tryz.ntmps69
  go_wp2_with fail
  go_loopw [9] (fun j wr => ∃ k : Nat, k ≤ L.length ∧ j = .int .i64 k ∧ W = wr ∧ Hid ((L.take k).any (fun i => aliveB (podAt s i.toNat).1) = false)) (fun j _ => L.length - (intOf j).toNat)
  case atStart => exact ⟨0, Nat.zero_le _, rfl, rfl, Lib.hid (by simp)⟩
  case round =>
    obtain ⟨k, hk, rfl, rfl, HNO⟩ := hrel
    by_cases hlt : k < L.length
    · obtain ⟨i, hLi, hi⟩ := HIN.out k hlt
      have hlp : i < s.pods.length := by rw [HNP.out]; exact hi
      obtain ⟨bl, ol, rfl, hbl, q0⟩ := list_at HL.out hLi
      obtain ⟨b', off', rfl, hb', hc⟩ := (R0.out.below HK.out (Nat.le_refl _)).cell hlp
      have p0 := (hc 0 (by decide)).trans (podCs_at s.pods (i := i) hlp).1
      rw [Nat.add_zero] at p0
      clear hc
      have HY : Hid (aliveB (podA s.pods i).1 = true → ans = true) := Lib.hid fun h => by rw [← HANS.out]; exact any_take_yes hLi (by simpa [podAt, podA] using h)
      have HN : Hid (aliveB (podA s.pods i).1 = false → (L.take (k + 1)).any (fun i => aliveB (podAt s i.toNat).1) = false) := Lib.hid fun h => any_take_no hLi HNO.out (by simpa [podAt, podA] using h)
      generalize (podA s.pods i).1 = x at p0 HY HN
      clear hLi
      go_wp2_with fail
      refine (implAlive_any _ _).mono ?_
      rintro e w5 ⟨rfl, rfl⟩
      cases ha : aliveB x
      · have HA := Lib.hid (HN.out ha)
        clear ha
        go_wp2
        exact ⟨⟨k + 1, by omega, by go_num, by trivial, HA⟩, by simp [intOf]; omega⟩
      · have HA := Lib.hid (HY.out ha)
        clear ha
        go_wp2
        all_goals (go_ret; exact ⟨ret_bool HA.out.symm, Below.refl _ _⟩)
    · obtain rfl : k = L.length := by omega
      have HA : Hid (ans = false) := Lib.hid (by rw [← HANS.out]; have := HNO.out; rwa [List.take_length] at this)
      go_wp2
      all_goals (go_ret; exact ⟨ret_bool HA.out.symm, Below.refl _ _⟩)

set_option maxRecDepth 100000 in
set_option maxHeartbeats 8000000 in
theorem bandBehind_any (w0 W : World) (g : Nat) (d : PlanD) (s : StD) (l : List RecD) (h : Tk w0 W g d s l) :
    Calls Tryz.prog 70 #[.pointer (some ⟨g, 0, none⟩)] W fun e w' => e = .returned (.int .i64 (nextB d s.ba)) ∧ Below W.heap.size W w' := by
  obtain ⟨K, pv, sv, v, hp, hs, ⟨pc, sc, ep, es, X⟩, O⟩ := h
  have HP := Lib.hid hp
  have HS := Lib.hid hs
  obtain ⟨⟨P0, P1, P2, P3, k0, k1, k2, k3, rfl, s0, s1, s2, s3⟩, b0, b1, b2, b3⟩ := hp
  obtain ⟨⟨A0, A1, A2, A3, c0, c1, c2, c3, rfl, t0, t1, t2, t3⟩, f0, f1, f2, f3⟩ := hs
  injection ep with ep
  injection es with es
  subst ep es
  unfold maxLen at b0 b1 b2 b3 f0 f1 f2 f3
  replace X : BoxTk W w0.heap.size g (tkC P0 P1 P2 P3 d.n0 k0 d.n1 k1 d.n2 k2 d.n3 k3 d.l d.p d.t A0 A1 A2 A3 s.pods.length c0 s.mnts.length c1 s.devs.length c2 s.lks.length c3 s.ph s.co s.ck s.bo s.ba s.lb s.gd s.pr (s.ck + 1) v).toList := X
  clear s0 s1 s2 s3 t0 t1 t2 t3
  have HK := Lib.hid K
  have HX := Lib.hid X
  have HB : Hid (nextB d s.ba = if nextL d s.ba < 0 then 6 else nextL d s.ba) := Lib.hid rfl
  have Q0 : (∀ o, W.cell? ⟨g, o, none⟩ = (tkC P0 P1 P2 P3 d.n0 k0 d.n1 k1 d.n2 k2 d.n3 k3 d.l d.p d.t A0 A1 A2 A3 s.pods.length c0 s.mnts.length c1 s.devs.length c2 s.lks.length c3 s.ph s.co s.ck s.bo s.ba s.lb s.gd s.pr (s.ck + 1) v)[o]?) ∧ Below W.heap.size W W := ⟨X.C, Below.refl _ _⟩
  clear K X O
  go_enter Tryz.func70, Tryz.ntmps70
  go_wp2_with fail
  go_region_held3 (fun w' => (∀ o, w'.cell? ⟨g, o, none⟩ = (tkC P0 P1 P2 P3 d.n0 k0 d.n1 k1 d.n2 k2 d.n3 k3 d.l d.p d.t A0 A1 A2 A3 s.pods.length c0 s.mnts.length c1 s.devs.length c2 s.lks.length c3 s.ph s.co s.ck s.bo s.ba s.lb s.gd s.pr (s.ck + 1) v)[o]?) ∧ Below W.heap.size W w')
    (first | exact Q2 | exact Q0 | exact ⟨Q0.1, Q0.2.drew⟩)
    (first
      | (go_at_call 106
         have K0 : Below W.heap.size W W.drew := (Below.refl _ _).drew
         refine (implNext_any _ d _ _ (planAt HP.out (toW HK.out K0))).mono ?_
         rintro e w5 ⟨rfl, hb⟩
         have K1 : Below W.heap.size W w5 := K0.trans hb
         have Q2 := And.intro (HX.out.go K1).C K1))
  rename_i hHeld
  clear hHeld Q0 Q2 K0 hb
  generalize nextL d s.ba = nb at HB ⊢
  by_cases hnb : nb < 0
  · have HN := Lib.hid hnb
    have hnb2 : ¬ 0 ≤ nb := by omega
    go_wp2
    all_goals (go_ret; exact ⟨ret_int (by rw [HB.out, if_pos HN.out]), K1⟩)
  · have HN := Lib.hid hnb
    have hnb2 : 0 ≤ nb := by omega
    go_wp2
    all_goals (go_ret; exact ⟨ret_int (by rw [HB.out, if_neg (by have := HN.out; omega)]), K1⟩)

theorem heldLit_any (b : Bool) (n : Int) (w : World) : Calls Tryz.prog 109 #[.agg #[.bool b, .int .i64 n]] w fun e w' => e = .returned (.bool b) ∧ Below w.heap.size w w' := by
  go_enter Tryz.func109, Tryz.ntmps109
  go_wp2
  all_goals (go_ret; exact ⟨rfl, (Below.refl _ _).alloc (Nat.le_refl _) _⟩)
set_option maxRecDepth 100000 in
set_option maxHeartbeats 8000000 in
theorem indexHeld_any (M : List (Bool × Int)) (A : Option Addr) (c : Nat) (w : World) (h : SlV w w.heap.size 2 A M.length (mntCs M)) (hl : M.length ≤ maxLen) :
    Calls Tryz.prog 117 #[.slice A M.length c, .func (.func 109) #[] #[]] w fun e w' =>
      (∃ k : Nat, e = .returned (.int .i64 k) ∧ k ≤ 9223372036854775807 ∧ M.any (fun q => q.1) = true ∨ e = .returned (.int .i64 (-1)) ∧ M.any (fun q => q.1) = false) ∧ Below w.heap.size w w' := by
  unfold maxLen at hl
  have H := Lib.hid h
  clear h
  obtain ⟨ans, hans⟩ : ∃ ans, M.any (fun q => q.1) = ans := ⟨_, rfl⟩
  rw [hans]
  have HANS := Lib.hid hans
  clear hans
  go_enter Tryz.func117, Tryz.ntmps117
  go_wp2_with fail
  go_loopw [8] (fun j wr => ∃ k : Nat, k ≤ M.length ∧ j = .int .i64 k ∧ Hid (anyUp M (fun q => q.1) (false, 0) k) ∧ Below w.heap.size w wr) (fun j _ => M.length - (intOf j).toNat)
  case atStart => exact ⟨0, Nat.zero_le _, rfl, Lib.hid fun j hj => absurd hj (by omega), Below.refl _ _⟩
  case round =>
    obtain ⟨k, hk, rfl, HALL, K⟩ := hrel
    by_cases hlt : k < M.length
    · obtain ⟨b', off', rfl, hb', hc⟩ := (H.out.below K (Nat.le_refl _)).cell hlt
      have p0 := (hc 0 (by decide)).trans (mntCs_at M (i := k) hlt).1
      have p1 := (hc 1 (by decide)).trans (mntCs_at M (i := k) hlt).2
      rw [Nat.add_zero] at p0
      clear hc
      have HY : Hid ((mntA M k).1 = true → ans = true) := Lib.hid fun h => by rw [← HANS.out, any_some hlt h]
      have HN : Hid ((mntA M k).1 = false → anyUp M (fun q => q.1) (false, 0) (k + 1)) := Lib.hid fun h => anyUp_next HALL.out h
      generalize mntA M k = q at p0 p1 HY HN
      obtain ⟨x, y⟩ := q
      dsimp only at p0 p1 HY HN
      go_wp2_with fail
      refine (heldLit_any _ _ _).mono ?_
      rintro e w5 ⟨rfl, hb5⟩
      have K5 := K.trans (hb5.mono K.size)
      cases x
      · have HA := Lib.hid (HN.out rfl)
        go_wp2
        exact ⟨⟨k + 1, by omega, by go_num, HA, K5⟩, by simp [intOf]; omega⟩
      · have HA := Lib.hid (HY.out rfl)
        go_wp2
        all_goals (go_ret; exact ⟨⟨k, .inl ⟨rfl, by omega, HA.out⟩⟩, K5⟩)
    · obtain rfl : k = M.length := by omega
      have HA : Hid (ans = false) := Lib.hid (by rw [← HANS.out, any_none HALL.out])
      go_wp2
      all_goals (go_ret; exact ⟨⟨0, .inr ⟨rfl, HA.out⟩⟩, K⟩)
theorem containsHeld_any (M : List (Bool × Int)) (A : Option Addr) (c : Nat) (w : World) (h : SlV w w.heap.size 2 A M.length (mntCs M)) (hl : M.length ≤ maxLen) :
    Calls Tryz.prog 108 #[.slice A M.length c, .func (.func 109) #[] #[]] w fun e w' => e = .returned (.bool (M.any fun q => q.1)) ∧ Below w.heap.size w w' := by
  have H := Lib.hid h
  clear h
  obtain ⟨ans, hans⟩ : ∃ ans, M.any (fun q => q.1) = ans := ⟨_, rfl⟩
  rw [hans]
  have HANS := Lib.hid hans
  clear hans
  go_enter Tryz.func108, Tryz.ntmps108
  go_wp2_with fail
  refine (indexHeld_any M A c w H.out hl).mono ?_
  rw [HANS.out]
  rintro e w1 ⟨⟨k, ⟨rfl, hk, hc⟩ | ⟨rfl, hc⟩⟩, K⟩
  · have HC := Lib.hid hc
    clear hc
    go_wp2
    all_goals (go_ret; exact ⟨by rw [HC.out]; rfl, K⟩)
  · have HC := Lib.hid hc
    clear hc
    go_wp2
    all_goals (go_ret; exact ⟨by rw [HC.out]; rfl, K⟩)
set_option maxRecDepth 100000 in
set_option maxHeartbeats 8000000 in
theorem indexTrue_any (D : List Bool) (A : Option Addr) (c : Nat) (w : World) (h : SlV w w.heap.size 1 A D.length (devCs D)) (hl : D.length ≤ maxLen) :
    Calls Tryz.prog 118 #[.slice A D.length c, .bool true] w fun e w' =>
      (∃ k : Nat, e = .returned (.int .i64 k) ∧ k ≤ 9223372036854775807 ∧ D.any (fun x => x) = true ∨ e = .returned (.int .i64 (-1)) ∧ D.any (fun x => x) = false) ∧ w = w' := by
  unfold maxLen at hl
  have H := Lib.hid h
  clear h
  obtain ⟨ans, hans⟩ : ∃ ans, D.any (fun x => x) = ans := ⟨_, rfl⟩
  rw [hans]
  have HANS := Lib.hid hans
  clear hans
  go_enter Tryz.func118, Tryz.ntmps118
  go_wp2_with fail
  go_loopw [8] (fun j wr => ∃ k : Nat, k ≤ D.length ∧ j = .int .i64 k ∧ Hid (anyUp D (fun x => x) false k) ∧ w = wr) (fun j _ => D.length - (intOf j).toNat)
  case atStart => exact ⟨0, Nat.zero_le _, rfl, Lib.hid fun j hj => absurd hj (by omega), rfl⟩
  case round =>
    obtain ⟨k, hk, rfl, HALL, rfl⟩ := hrel
    by_cases hlt : k < D.length
    · obtain ⟨b', off', rfl, hb', hc⟩ := H.out.cell hlt
      have p0 := (hc 0 (by decide)).trans (devCs_at D (i := k * 1 + 0) (by omega))
      rw [Nat.add_zero, Nat.mul_one] at p0
      clear hc
      have HY : Hid (devA D k = true → ans = true) := Lib.hid fun h => by rw [← HANS.out, any_some (l := D) (p := fun x => x) (z := false) hlt h]
      have HN : Hid (devA D k = false → anyUp D (fun x => x) false (k + 1)) := Lib.hid fun h => anyUp_next HALL.out h
      generalize devA D k = x at p0 HY HN
      cases x
      · have HA := Lib.hid (HN.out rfl)
        go_wp2
        exact ⟨⟨k + 1, by omega, by go_num, HA, by trivial⟩, by simp [intOf]; omega⟩
      · have HA := Lib.hid (HY.out rfl)
        go_wp2
        all_goals (go_ret; exact ⟨⟨k, .inl ⟨rfl, by omega, HA.out⟩⟩, rfl⟩)
    · obtain rfl : k = D.length := by omega
      have HA : Hid (ans = false) := Lib.hid (by rw [← HANS.out, any_none HALL.out])
      go_wp2
      all_goals (go_ret; exact ⟨⟨0, .inr ⟨rfl, HA.out⟩⟩, rfl⟩)
theorem containsTrue_any (D : List Bool) (A : Option Addr) (c : Nat) (w : World) (h : SlV w w.heap.size 1 A D.length (devCs D)) (hl : D.length ≤ maxLen) :
    Calls Tryz.prog 110 #[.slice A D.length c, .bool true] w fun e w' => e = .returned (.bool (D.any fun x => x)) ∧ w = w' := by
  have H := Lib.hid h
  clear h
  obtain ⟨ans, hans⟩ : ∃ ans, D.any (fun x => x) = ans := ⟨_, rfl⟩
  rw [hans]
  have HANS := Lib.hid hans
  clear hans
  go_enter Tryz.func110, Tryz.ntmps110
  go_wp2_with fail
  refine (indexTrue_any D A c w H.out hl).mono ?_
  rw [HANS.out]
  rintro e w1 ⟨⟨k, ⟨rfl, hk, hc⟩ | ⟨rfl, hc⟩⟩, rfl⟩
  · have HC := Lib.hid hc
    clear hc
    go_wp2
    all_goals (go_ret; exact ⟨by rw [HC.out]; rfl, rfl⟩)
  · have HC := Lib.hid hc
    clear hc
    go_wp2
    all_goals (go_ret; exact ⟨by rw [HC.out]; rfl, rfl⟩)
set_option maxRecDepth 100000 in
set_option maxHeartbeats 8000000 in
theorem implHeld_any (sv : Value) (s : StD) (w : World) (hs : IsSt w w.heap.size sv s) :
    Calls Tryz.prog 72 #[sv] w fun e w' => e = .returned (.bool (heldB s)) ∧ Below w.heap.size w w' := by
  obtain ⟨⟨A0, A1, A2, A3, c0, c1, c2, c3, rfl, -, t1, t2, -⟩, -, f1, f2, -⟩ := hs
  have R1 := Lib.hid t1
  have R2 := Lib.hid t2
  clear t1 t2
  have X0 := Own.box w (stC A0 A1 A2 A3 s.pods.length c0 s.mnts.length c1 s.devs.length c2 s.lks.length c3 s.ph s.co s.ck s.bo s.ba s.lb s.gd s.pr) 47
  have hC := X0.C
  have HX := Lib.hid X0
  have HB : Hid (heldB s = (s.mnts.any (fun q => q.1) || s.devs.any (fun x => x))) := Lib.hid rfl
  clear X0
  go_enter Tryz.func72, Tryz.ntmps72
  go_wp2_with fail
  refine (containsHeld_any s.mnts _ _ _ ((R1.out.below HX.out.K (Nat.le_refl _)).more HX.out.K.size) f1).mono ?_
  rintro e w1 ⟨rfl, hb⟩
  have X1 := HX.out.step hb
  clear hC hb
  have hC := X1.C
  cases hx : s.mnts.any (fun q => q.1)
  · have HX := Lib.hid hx
    clear hx
    go_wp2_with fail
    refine (containsTrue_any s.devs _ _ _ ((R2.out.below X1.K (Nat.le_refl _)).more X1.K.size) f2).mono ?_
    rintro e w2 ⟨rfl, rfl⟩
    generalize s.devs.any (fun x => x) = y at HB ⊢
    go_wp2
    all_goals (go_ret; exact ⟨ret_bool (by rw [HB.out, HX.out]; rfl), X1.K⟩)
  · have HX := Lib.hid hx
    clear hx
    go_wp2
    all_goals (go_ret; exact ⟨ret_bool (by rw [HB.out, HX.out]; rfl), X1.K⟩)
end Go.Proofs.YtdphpjnecjofeaaGreat
