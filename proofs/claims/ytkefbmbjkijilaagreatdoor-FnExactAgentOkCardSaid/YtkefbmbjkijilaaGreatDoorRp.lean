/-
  Agents in the laws: marks set in all their lists, and found again; an agent's size, copy and likeness.
-/
import Derived.Test.YtkefbmbjkijilaaGreatDoorRe
import Derived.Test.YtkefbmbjkijilaaGreatDoorRf
set_option linter.unusedVariables false
namespace Go.Proofs.YtkefbmbjkijilaaGreatDoor
open Go.RowKit

/-- A state's value beside its lists. -/
abbrev stV (s : StD) (s0 s1 s2 s3 : Value) : Value := .agg #[.int .i64 s.ph, .bool s.co, .int .i64 s.ck, .int .i64 s.bo, .int .i64 s.ba, .int .i64 s.lb, s0, s1, s2, s3, .int .i64 s.gd, .int .i64 s.pr]
/-- An agent whose lists can be written, each in a block of its own, from B to E. -/
structure AgIn (w : World) (v : Value) (d : PlanD) (s : StD) (n : Nat) (x : Nat → Int) (B E : Nat) : Prop where
  it : ∃ (p0 p1 p2 p3 s0 s1 s2 s3 u : Value) (RS : Nat → Prop), v = .agg (agC p0 p1 p2 p3 d.l d.p d.t s.ph s.co s.ck s.bo s.ba s.lb s0 s1 s2 s3 s.gd s.pr u) ∧ PlR w p0 p1 p2 p3 d ∧ RowsR w (stV s s0 s1 s2 s3) s RS ∧ URow w u n x ∧
    (∀ b, PBlk p0 p1 p2 p3 d b → B ≤ b ∧ b < E) ∧ (∀ b, RS b → B ≤ b ∧ b < E) ∧ (∀ b, LBlk u n b → B ≤ b ∧ b < E) ∧ (∀ b, PBlk p0 p1 p2 p3 d b → ¬ RS b) ∧ (∀ b, LBlk u n b → ¬ RS b) ∧ (∀ b, LBlk u n b → ¬ PBlk p0 p1 p2 p3 d b)
  le : E ≤ w.heap.size
theorem AgIn.go {w w' : World} {v : Value} {d : PlanD} {s : StD} {n : Nat} {x : Nat → Int} {B E : Nat} (h : AgIn w v d s n x B E) (hb : Below w.heap.size w w') : AgIn w' v d s n x B E := by
  obtain ⟨⟨p0, p1, p2, p3, s0, s1, s2, s3, u, RS, hv, hp, hs, hu, r⟩, hle⟩ := h
  exact ⟨⟨p0, p1, p2, p3, s0, s1, s2, s3, u, RS, hv, hp.go hb, hs.go hb, hu.go hb, r⟩, Nat.le_trans hle hb.size⟩
theorem AgIn.keeps {S : Nat → Prop} {w w' : World} {v : Value} {d : PlanD} {s : StD} {n : Nat} {x : Nat → Int} {B E : Nat} (h : AgIn w v d s n x B E) (k : Keeps S w w') (hS : ∀ b, B ≤ b → b < E → ¬ S b) : AgIn w' v d s n x B E := by
  obtain ⟨⟨p0, p1, p2, p3, s0, s1, s2, s3, u, RS, hv, hp, hs, hu, r0, r1, r2, r⟩, hle⟩ := h
  exact ⟨⟨p0, p1, p2, p3, s0, s1, s2, s3, u, RS, hv, hp.keeps k fun b hb => hS b (r0 b hb).1 (r0 b hb).2, hs.keeps k fun b hb => hS b (r1 b hb).1 (r1 b hb).2, hu.keeps k fun b hb => hS b (r2 b hb).1 (r2 b hb).2, r0, r1, r2, r⟩, Nat.le_trans hle k.size⟩
/-- An agent that can be read below block B (whatever its lists without places are). -/
structure IsAgW (w : World) (B : Nat) (v : Value) (d : PlanD) (s : StD) (st : List Nat) : Prop where
  it : ∃ p0 p1 p2 p3 s0 s1 s2 s3 b, v = .agg (agC p0 p1 p2 p3 d.l d.p d.t s.ph s.co s.ck s.bo s.ba s.lb s0 s1 s2 s3 s.gd s.pr b) ∧ IsPlan w B (.agg #[p0, p1, p2, p3, .int .i64 d.l, .int .i64 d.p, .int .i64 d.t]) d ∧ IsSt w B (stV s s0 s1 s2 s3) s ∧ Bt w B b st
theorem IsAgW.below {w w' : World} {B B' : Nat} {v : Value} {d : PlanD} {s : StD} {st : List Nat} (h : IsAgW w B v d s st) (hb : Below B' w w') (hB : B ≤ B') : IsAgW w' B v d s st := by
  obtain ⟨p0, p1, p2, p3, s0, s1, s2, s3, b, hv, h0, h1, h2⟩ := h.it
  exact ⟨p0, p1, p2, p3, s0, s1, s2, s3, b, hv, h0.below hb hB, h1.below hb hB, h2.below hb hB⟩
theorem IsAgW.more {w : World} {B B' : Nat} {v : Value} {d : PlanD} {s : StD} {st : List Nat} (h : IsAgW w B v d s st) (hB : B ≤ B') : IsAgW w B' v d s st := by
  obtain ⟨p0, p1, p2, p3, s0, s1, s2, s3, b, hv, h0, h1, h2⟩ := h.it
  exact ⟨p0, p1, p2, p3, s0, s1, s2, s3, b, hv, h0.more hB, h1.more hB, h2.more hB⟩
theorem IsAgW.go {w w' : World} {v : Value} {d : PlanD} {s : StD} {st : List Nat} (h : IsAgW w w.heap.size v d s st) (hb : Below w.heap.size w w') : IsAgW w' w'.heap.size v d s st := (h.below hb (Nat.le_refl _)).more hb.size
theorem AgIn.is {w : World} {v : Value} {d : PlanD} {s : StD} {st : List Nat} {B E : Nat} (h : AgIn w v d s st.length (fun j => (st.getD j 0 : Nat)) B E) (hd : PlFits d) (hs : StFits s 1048576) (hl : st.length ≤ maxLen) (hb : SmallB st) : IsAgW w w.heap.size v d s st := by
  obtain ⟨⟨p0, p1, p2, p3, s0, s1, s2, s3, u, RS, hv, hp, hst, hu, r0, r1, r2, r⟩, hle⟩ := h
  exact ⟨p0, p1, p2, p3, s0, s1, s2, s3, u, hv, hp.is hd, hst.is hs, hu.bt hl hb⟩
theorem rows_lt {w : World} {B e k n b : Nat} {v : Value} {xs : List Value} (h : w.ownsRow B e k v n xs) (hb : v.ownBlock = some b) : B ≤ b ∧ b < w.heap.size := World.ownsRow.lt h b hb
theorem OwnAg.ins {w : World} {B : Nat} {v : Value} {d : PlanD} {s : StD} {st : List Nat} (h : OwnAg w B v d s st) (hB : B ≤ w.heap.size) : AgIn w v d s st.length (fun j => (st.getD j 0 : Nat)) B w.heap.size := by
  obtain ⟨p0, p1, p2, p3, s0, s1, s2, s3, u, hv, hp, hst, hu, ha⟩ := h.it
  have hR := hst.rows hB
  obtain ⟨v0, v1, v2, v3, e, o0, o1, o2, o3⟩ := hst.it
  injection e with e
  injection e with e
  simp only [List.cons.injEq, and_true, true_and] at e
  obtain ⟨rfl, rfl, rfl, rfl⟩ := e
  have hP := hp.plr
  obtain ⟨⟨x0, q0, -⟩, ⟨x1, q1, -⟩, ⟨x2, q2, -⟩, ⟨x3, q3, -⟩⟩ := hp
  refine ⟨⟨p0, p1, p2, p3, s0, s1, s2, s3, u, fun b => s0.ownBlock = some b ∨ s1.ownBlock = some b ∨ s2.ownBlock = some b ∨ s3.ownBlock = some b, hv, hP, ?_, hu.urow, ?_, ?_, fun b hb => hu.lt hb.1, ?_, ?_, ?_⟩, Nat.le_refl _⟩
  · obtain ⟨g0, g1, g2, g3, R, -⟩ := hR
    obtain ⟨A0, A1, A2, A3, c0, c1, c2, c3, hv, a0, a1, a2, a3⟩ := R.val
    injection hv with hv
    injection hv with hv
    simp only [List.cons.injEq, and_true, true_and] at hv
    obtain ⟨rfl, rfl, rfl, rfl⟩ := hv
    exact ⟨g0, g1, g2, g3, R, fun hn => .inl (by rw [a0 hn]; rfl), fun hn => .inr (.inl (by rw [a1 hn]; rfl)), fun hn => .inr (.inr (.inl (by rw [a2 hn]; rfl))), fun hn => .inr (.inr (.inr (by rw [a3 hn]; rfl)))⟩
  · rintro b (hb | hb | hb | hb)
    · exact rows_lt q0 hb.1
    · exact rows_lt q1 hb.1
    · exact rows_lt q2 hb.1
    · exact rows_lt q3 hb.1
  · rintro b (hb | hb | hb | hb)
    · exact rows_lt o0 hb
    · exact rows_lt o1 hb
    · exact rows_lt o2 hb
    · exact rows_lt o3 hb
  · rintro b (hb | hb | hb | hb) (hc | hc | hc | hc)
    · exact absurd (row_type q0 o0 hb.1 hc) (by decide)
    · exact absurd (row_type q0 o1 hb.1 hc) (by decide)
    · exact absurd (row_type q0 o2 hb.1 hc) (by decide)
    · exact absurd (row_type q0 o3 hb.1 hc) (by decide)
    · exact absurd (row_type q1 o0 hb.1 hc) (by decide)
    · exact absurd (row_type q1 o1 hb.1 hc) (by decide)
    · exact absurd (row_type q1 o2 hb.1 hc) (by decide)
    · exact ha b hb.1 hc
    · exact absurd (row_type q2 o0 hb.1 hc) (by decide)
    · exact absurd (row_type q2 o1 hb.1 hc) (by decide)
    · exact absurd (row_type q2 o2 hb.1 hc) (by decide)
    · exact absurd (row_type q2 o3 hb.1 hc) (by decide)
    · exact absurd (row_type q3 o0 hb.1 hc) (by decide)
    · exact absurd (row_type q3 o1 hb.1 hc) (by decide)
    · exact absurd (row_type q3 o2 hb.1 hc) (by decide)
    · exact absurd (row_type q3 o3 hb.1 hc) (by decide)
  · rintro b hb (hc | hc | hc | hc)
    · exact absurd (row_type hu.own o0 hb.1 hc) (by decide)
    · exact absurd (row_type hu.own o1 hb.1 hc) (by decide)
    · exact absurd (row_type hu.own o2 hb.1 hc) (by decide)
    · exact absurd (row_type hu.own o3 hb.1 hc) (by decide)
  · rintro b hb (hc | hc | hc | hc)
    · exact absurd (row_type hu.own q0 hb.1 hc.1) (by decide)
    · exact absurd (row_type hu.own q1 hb.1 hc.1) (by decide)
    · exact absurd (row_type hu.own q2 hb.1 hc.1) (by decide)
    · exact absurd (row_type hu.own q3 hb.1 hc.1) (by decide)
/-- How many marks an agent takes. -/
def totA (d : PlanD) (s : StD) (n : Nat) : Nat := totP d + totS s + n
set_option maxRecDepth 100000 in
set_option maxHeartbeats 4000000 in
theorem markAg_any (v : Value) (d : PlanD) (s : StD) (n : Nat) (x : Nat → Int) (B E : Nat) (k : Int) (w : World) (h : AgIn w v d s n x B E) (hd : PlFits d) (hs : StFits s 1048576) (hn : n ≤ 1048576) (hk0 : 0 ≤ k) (hk1 : k + totA d s n ≤ 8388608) :
    Calls Tryz.prog 17 #[v, .int .i64 k] w fun e w' => e = .returned (.int .i64 (k + totA d s n)) ∧ AgIn w' v (markP k d) (markS (k + totP d) s) n (markU (k + totP d + totS s)) B E ∧ Keeps (fun b => B ≤ b ∧ b < E) w w' := by
  obtain ⟨⟨p0, p1, p2, p3, s0, s1, s2, s3, u, RS, rfl, hp, hst, hu, r0, r1, r2, r3, r4, r5⟩, hle⟩ := h
  unfold totA at hk1 ⊢
  have KK0 : Keeps (fun b => B ≤ b ∧ b < E) w (w.alloc (.cells (agC p0 p1 p2 p3 d.l d.p d.t s.ph s.co s.ck s.bo s.ba s.lb s0 s1 s2 s3 s.gd s.pr u) 48)) := Keeps.of_below ((Below.refl _ _).alloc (Nat.le_refl _) _)
  have X := Own.box w (agC p0 p1 p2 p3 d.l d.p d.t s.ph s.co s.ck s.bo s.ba s.lb s0 s1 s2 s3 s.gd s.pr u) 48
  have HP := Lib.hid (hp.go X.K)
  have HS := Lib.hid (hst.go X.K)
  have HU := Lib.hid (hu.go X.K)
  have R0 := Lib.hid r0
  have R1 := Lib.hid r1
  have R2 := Lib.hid r2
  have R3 := Lib.hid r3
  have R4 := Lib.hid r4
  have R5 := Lib.hid r5
  have hC := X.C
  have hsz := X.z
  have HLE := Lib.hid hle
  have HD := Lib.hid hd
  have HF := Lib.hid hs
  have HN := Lib.hid hn
  have HK := Lib.hid hk1
  clear X hp hst hu r0 r1 r2 r3 r4 r5 hle hd hs hn hk1
  go_enter Tryz.func17, Tryz.ntmps17
  go_wp2_with fail
  generalize w.alloc (.cells (agC p0 p1 p2 p3 d.l d.p d.t s.ph s.co s.ck s.bo s.ba s.lb s0 s1 s2 s3 s.gd s.pr u) 48) = w1 at *
  refine (markPl_any p0 p1 p2 p3 d k w1 HP.out HD.out hk0 (by have := HK.out; omega)).mono ?_
  rintro e w2 ⟨rfl, hp, kk⟩
  clear HP
  have HP := Lib.hid hp
  replace HS := Lib.hid (HS.out.keeps kk fun b p q => R3.out b q p)
  replace HU := Lib.hid (HU.out.keeps kk fun b p q => R5.out b p q)
  replace hC := fun o => (kk.cell (p := ⟨w.heap.size, o, none⟩) hsz (fun h => by have h9 : w.heap.size < E := (R0.out _ h).2; have := HLE.out; omega)).trans (hC o)
  replace KK0 := KK0.trans (kk.mono R0.out)
  replace hsz := Nat.lt_of_lt_of_le hsz kk.size
  clear kk hp
  go_wp2_with fail
  refine (markR_any (stV s s0 s1 s2 s3) s RS (k + (totP d : Int)) w2 HS.out HF.out (by omega) (by have := HK.out; omega)).mono ?_
  rintro e w3 ⟨rfl, hst, kk⟩
  clear HS
  have HS := Lib.hid hst
  replace HP := Lib.hid (HP.out.keeps kk fun b p q => R3.out b p q)
  replace HU := Lib.hid (HU.out.keeps kk fun b p q => R4.out b p q)
  replace hC := fun o => (kk.cell (p := ⟨w.heap.size, o, none⟩) hsz (fun h => by have h9 : w.heap.size < E := (R1.out _ h).2; have := HLE.out; omega)).trans (hC o)
  replace KK0 := KK0.trans (kk.mono R1.out)
  replace hsz := Nat.lt_of_lt_of_le hsz kk.size
  clear kk hst
  go_wp2_with fail
  refine (markByteS_p u n (k + (totP d : Int) + (totS s : Int)) x w3 HU.out HN.out (by omega) (by have := HK.out; omega)).mono ?_
  rintro e w4 ⟨rfl, hu, kk⟩
  clear HU
  have HU := Lib.hid hu
  replace HP := Lib.hid (HP.out.keeps kk fun b p q => R5.out b q p)
  replace HS := Lib.hid (HS.out.keeps kk fun b p q => R4.out b q p)
  replace KK0 := KK0.trans (kk.mono R2.out)
  have hle := Nat.le_trans (Nat.le_trans HLE.out (Nat.le_of_lt hsz)) kk.size
  clear kk hu hC hsz
  go_wp2_with fail
  go_ret
  refine ⟨?_, ⟨⟨p0, p1, p2, p3, s0, s1, s2, s3, u, RS, rfl, HP.out, HS.out, HU.out, R0.out, R1.out, R2.out, R3.out, R4.out, R5.out⟩, by omega⟩, KK0⟩
  show Ending.returned (Value.int .i64 _) = _
  congr 2
  push_cast
  omega
set_option maxRecDepth 100000 in
set_option maxHeartbeats 4000000 in
theorem heldAg_any (v : Value) (d : PlanD) (s : StD) (n : Nat) (B E : Nat) (k : Int) (w : World) (h : AgIn w v (markP k d) (markS (k + totP d) s) n (markU (k + totP d + totS s)) B E) (hd : PlFits d) (hs : StFits s 1048576) (hn : n ≤ 1048576) (hk0 : 0 ≤ k) (hk1 : k + totA d s n ≤ 8388608) :
    Calls Tryz.prog 18 #[v, .int .i64 k] w fun e w' => e = .returned (.int .i64 (k + totA d s n)) ∧ Below w.heap.size w w' := by
  obtain ⟨⟨p0, p1, p2, p3, s0, s1, s2, s3, u, RS, rfl, hp, hst, hu, -⟩, -⟩ := h
  unfold totA at hk1 ⊢
  have X := Own.box w (agC p0 p1 p2 p3 d.l d.p d.t s.ph s.co s.ck s.bo s.ba s.lb s0 s1 s2 s3 s.gd s.pr u) 48
  have HP := Lib.hid hp
  have HS := Lib.hid hst
  have HU := Lib.hid hu
  have HD := Lib.hid hd
  have HF := Lib.hid hs
  have HN := Lib.hid hn
  have HK := Lib.hid hk1
  clear hp hst hu hd hs hn hk1
  show Calls Tryz.prog 18 #[.agg (agC p0 p1 p2 p3 d.l d.p d.t s.ph s.co s.ck s.bo s.ba s.lb s0 s1 s2 s3 s.gd s.pr u), .int .i64 k] w _
  go_enter Tryz.func18, Tryz.ntmps18
  go_wp2_with fail
  generalize w.alloc (.cells (agC p0 p1 p2 p3 d.l d.p d.t s.ph s.co s.ck s.bo s.ba s.lb s0 s1 s2 s3 s.gd s.pr u) 48) = w1 at X ⊢
  refine (heldPl_any p0 p1 p2 p3 d k w1 (HP.out.go X.K) HD.out hk0 (by have := HK.out; omega)).mono ?_
  rintro e w2 ⟨rfl, hb⟩
  replace X := X.step hb
  have hC := X.C
  have i1 : ¬ (k + (totP d : Int) < 0) := by omega
  clear hb
  go_wp2_with fail
  refine (heldR_any (stV s s0 s1 s2 s3) s RS (k + (totP d : Int)) w2 (HS.out.go X.K) HF.out (by omega) (by have := HK.out; omega)).mono ?_
  rintro e w3 ⟨rfl, hb⟩
  replace X := X.step hb
  clear hC hb
  have hC := X.C
  have i2 : ¬ (k + (totP d : Int) + (totS s : Int) < 0) := by omega
  obtain ⟨A, c, g, rfl, -, hA, hg, hR⟩ := HU.out.go X.K
  have HA := Lib.hid hA
  have HR := Lib.hid hR
  clear hA hg hR HU
  go_wp2_with fail
  refine (heldByteS_row A n c g (k + (totP d : Int) + (totS s : Int)) w3 HA.out HR.out HN.out (by omega) (by have := HK.out; omega)).mono ?_
  rintro e w4 ⟨rfl, hb⟩
  replace X := X.step hb
  have i3 : ¬ (k + (totP d : Int) + (totS s : Int) + (n : Int) < 0) := by omega
  clear hC hb
  go_wp2_with fail
  go_ret
  refine ⟨?_, X.K⟩
  show Ending.returned (Value.int .i64 _) = _
  congr 2
  push_cast
  omega
set_option maxRecDepth 100000 in
set_option maxHeartbeats 4000000 in
theorem eqAg_same (v v' : Value) (d : PlanD) (s : StD) (st : List Nat) (w : World) (h : IsAgW w w.heap.size v d s st) (h' : IsAgW w w.heap.size v' d s st) :
    Calls Tryz.prog 10 #[v, v'] w fun e w' => e = .returned (.bool true) ∧ Below w.heap.size w w' := by
  obtain ⟨p0, p1, p2, p3, s0, s1, s2, s3, u, rfl, hp, hs, hu⟩ := h.it
  obtain ⟨q0, q1, q2, q3, t0, t1, t2, t3, u', rfl, hp', hs', hu'⟩ := h'.it
  have HP := Lib.hid hp
  have HS := Lib.hid hs
  have HU := Lib.hid hu
  have HP' := Lib.hid hp'
  have HS' := Lib.hid hs'
  have HU' := Lib.hid hu'
  clear h h' hp hs hu hp' hs' hu'
  have T := Two.start w (agC p0 p1 p2 p3 d.l d.p d.t s.ph s.co s.ck s.bo s.ba s.lb s0 s1 s2 s3 s.gd s.pr u) (agC q0 q1 q2 q3 d.l d.p d.t s.ph s.co s.ck s.bo s.ba s.lb t0 t1 t2 t3 s.gd s.pr u') 48 48
  go_enter Tryz.func10, Tryz.ntmps10
  go_wp2_with fail
  generalize (w.alloc (.cells (agC p0 p1 p2 p3 d.l d.p d.t s.ph s.co s.ck s.bo s.ba s.lb s0 s1 s2 s3 s.gd s.pr u) 48)).alloc (.cells (agC q0 q1 q2 q3 d.l d.p d.t s.ph s.co s.ck s.bo s.ba s.lb t0 t1 t2 t3 s.gd s.pr u') 48) = w1 at T ⊢
  refine (eqPlan_same _ _ d w1 ((HP.out.below T.A.K (Nat.le_refl _)).more T.A.K.size) ((HP'.out.below T.A.K (Nat.le_refl _)).more T.A.K.size)).mono ?_
  rintro e w2 ⟨rfl, hb⟩
  replace T := T.step hb
  clear hb
  have hC := T.A.C
  have hD := T.O.C
  go_wp2_with fail
  refine (eqState_same _ _ s w2 ((HS.out.below T.A.K (Nat.le_refl _)).more T.A.K.size) ((HS'.out.below T.A.K (Nat.le_refl _)).more T.A.K.size)).mono ?_
  rintro e w3 ⟨rfl, hb⟩
  replace T := T.step hb
  clear hb hC hD
  have hC := T.A.C
  have hD := T.O.C
  go_wp2_with fail
  refine (eqByteS_same _ _ st w3 ((HU.out.below T.A.K (Nat.le_refl _)).more T.A.K.size) ((HU'.out.below T.A.K (Nat.le_refl _)).more T.A.K.size)).mono ?_
  rintro e w4 ⟨rfl, hb⟩
  replace T := T.step hb
  clear hb hC hD
  go_wp2_with fail
  go_ret
  exact ⟨rfl, T.A.K⟩
end Go.Proofs.YtkefbmbjkijilaaGreatDoor
