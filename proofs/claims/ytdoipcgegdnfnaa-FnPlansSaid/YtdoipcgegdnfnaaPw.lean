/-
  Small walks for FnPlans.
-/
import Derived.Test.YtdoipcgegdnfnaaPsB
import Derived.Test.YtdoipcgegdnfnaaPm
import Derived.Deep.RegionHeld3
set_option linter.unusedVariables false
namespace Go.Proofs.Ytdoipcgegdnfnaa
open Go.RowKit

/-- How many of n numbers lie from lo to lo + k - 1. -/
def cnt : Nat → (Nat → Int) → Int → Nat → Nat
  | 0, _, _, _ => 0
  | n + 1, f, lo, k => cnt n f lo k + (if lo ≤ f n ∧ f n < lo + k then 1 else 0)
theorem cnt_zero (n : Nat) (f : Nat → Int) (lo : Int) : cnt n f lo 0 = 0 := by
  induction n with
  | zero => rfl
  | succ n ih => unfold cnt; rw [ih, if_neg (by omega)]
theorem cnt_step (n : Nat) (f : Nat → Int) (lo : Int) (k : Nat) : cnt n f lo (k + 1) = cnt n f lo k + (hits n f (lo + k)).length := by
  induction n with
  | zero => rfl
  | succ n ih =>
    simp only [cnt]
    rw [ih]
    cases h : (f n == lo + k)
    · rw [hits_no h]
      have h := ne_of_beq_false h
      by_cases e : lo ≤ f n ∧ f n < lo + k
      · rw [if_pos e, if_pos (by omega)]; omega
      · rw [if_neg e, if_neg (by omega)]; omega
    · rw [hits_yes h]
      have h := eq_of_beq h
      rw [if_pos (by omega), if_neg (by omega), List.length_append]
      simp
      omega
theorem cnt_full {n : Nat} {f : Nat → Int} {lo : Int} {k : Nat} (h : ∀ i, i < n → lo ≤ f i ∧ f i < lo + k) : cnt n f lo k = n := by
  induction n with
  | zero => rfl
  | succ n ih => unfold cnt; rw [ih fun i hi => h i (by omega), if_pos (h n (by omega))]
theorem cnt_le (n : Nat) (f : Nat → Int) (lo : Int) (k : Nat) : cnt n f lo k ≤ n := by
  induction n with
  | zero => exact Nat.le_refl _
  | succ n ih => unfold cnt; split <;> omega

/-- A list of whole numbers, opened. -/
structure Lst (w : World) (v : Value) (L : List Int) : Prop where
  it : ∃ A c, v = .slice A L.length c ∧ Sl w w.heap.size 1 A L.length (fun j => L.getD j 0)
theorem Lst.of {w : World} {B : Nat} {v : Value} {L : List Int} (h : w.ownsRow B 2 1 v L.length (L.map (Value.int .i64))) : Lst w v L := by
  obtain ⟨A, c, g, rfl, hA, _, hz, R⟩ := open_list h
  exact ⟨A, c, rfl, row_sl hA hz R⟩
theorem Lst.go {w w' : World} {v : Value} {L : List Int} (h : Lst w v L) (hb : Below w.heap.size w w') : Lst w' v L := by
  obtain ⟨A, c, rfl, S⟩ := h
  exact ⟨A, c, rfl, (S.below hb (Nat.le_refl _)).more hb.size⟩

theorem big_any (A : Option Addr) (n c : Nat) (w : World) (hn : n ≤ maxLen) : Calls Try.prog 8 #[.slice A n c] w fun e w' => e = .returned (.bool (decide (4096 < (n : Int)))) ∧ w = w' := by
  go_enter Try.func8, Try.ntmps8
  go_wp2
  go_ret
  exact ⟨rfl, rfl⟩

set_option maxRecDepth 100000 in
set_option maxHeartbeats 1000000 in
theorem likeInts_same (v v' : Value) (L : List Int) (w : World) (h : Lst w v L) (h' : Lst w v' L) (hn : L.length ≤ maxLen) :
    Calls Try.prog 17 #[v, v'] w fun e w' => e = .returned (.bool true) ∧ Below w.heap.size w w' := by
  obtain ⟨A, c, rfl, s⟩ := h
  obtain ⟨A', c', rfl, s'⟩ := h'
  generalize hL : L.length = n at *
  clear hL
  unfold maxLen at hn
  have S := Lib.hid s
  have S' := Lib.hid s'
  clear s s'
  go_enter Try.func17, Try.ntmps17
  go_wp2
  go_loopw [5] (fun i wr => ∃ k : Nat, k ≤ n ∧ i = .int .i64 k ∧ Below w.heap.size w wr) (fun i _ => n - (intOf i).toNat)
  case atStart => exact ⟨0, Nat.zero_le _, rfl, Below.refl _ _⟩
  case round =>
    obtain ⟨k, hk, rfl, K⟩ := hrel
    by_cases hlt : k < n
    · obtain ⟨b, off, rfl, hb, q0⟩ := ((S.out.below K (Nat.le_refl _)).more K.size).cell1 hlt
      obtain ⟨b', off', rfl, hb', r0⟩ := ((S'.out.below K (Nat.le_refl _)).more K.size).cell1 hlt
      go_wp2_with fail
      go_quiet (fail)
      go_wp2
      exact ⟨⟨k + 1, by omega, by go_num, below_drewN K _⟩, by simp [intOf]; omega⟩
    · obtain rfl : k = n := by omega
      go_wp2
      go_ret
      exact ⟨rfl, K⟩

theorem plan_of_owned {w : World} {B0 B1 B2 B3 : Nat} {v0 v1 v2 v3 : Value} {d : PlanD} (o0 : OI w B0 53 4 v0 d.n0 d.x0) (o1 : OI w B1 2 1 v1 d.n1 d.x1) (o2 : OI w B2 55 2 v2 d.n2 d.x2) (o3 : OI w B3 57 1 v3 d.n3 d.x3) :
    IsPlan w w.heap.size (.agg #[v0, v1, v2, v3, .int .i64 d.l, .int .i64 d.p, .int .i64 d.t]) d := by
  obtain ⟨A0, c0, rfl, s0, b0⟩ := o0.form
  obtain ⟨A1, c1, rfl, s1, b1⟩ := o1.form
  obtain ⟨A2, c2, rfl, s2, b2⟩ := o2.form
  obtain ⟨A3, c3, rfl, s3, b3⟩ := o3.form
  exact ⟨⟨_, _, _, _, _, _, _, _, rfl, s0, s1, s2, s3⟩, b0, b1, b2, b3⟩

/-- The four lists of a plan. -/
structure Lists (w : World) (B : Nat) (v0 v1 v2 v3 : Value) (d : PlanD) : Prop where
  o0 : OI w B 53 4 v0 d.n0 d.x0
  o1 : OI w B 2 1 v1 d.n1 d.x1
  o2 : OI w B 55 2 v2 d.n2 d.x2
  o3 : OI w B 57 1 v3 d.n3 d.x3
theorem Lists.below {w w' : World} {B : Nat} {v0 v1 v2 v3 : Value} {d : PlanD} (h : Lists w B v0 v1 v2 v3 d) (hb : Below w.heap.size w w') : Lists w' B v0 v1 v2 v3 d :=
  ⟨h.o0.below hb, h.o1.below hb, h.o2.below hb, h.o3.below hb⟩
theorem Lists.keeps {w w' : World} {B g T : Nat} {cs : Array Value} {v0 v1 v2 v3 : Value} {d : PlanD} (h : Lists w B v0 v1 v2 v3 d) (kk : Keeps (· = g) w w') (hg : w.heap[g]? = some (.cells cs T (0, 0)))
    (hT : T ≠ 53 ∧ T ≠ 2 ∧ T ≠ 55 ∧ T ≠ 57) : Lists w' B v0 v1 v2 v3 d :=
  ⟨h.o0.keeps kk hg hT.1, h.o1.keeps kk hg hT.2.1, h.o2.keeps kk hg hT.2.2.1, h.o3.keeps kk hg hT.2.2.2⟩
theorem Lists.base {w : World} {B B' : Nat} {v0 v1 v2 v3 : Value} {d : PlanD} (h : Lists w B v0 v1 v2 v3 d) (hb : B' ≤ B) : Lists w B' v0 v1 v2 v3 d := by
  obtain ⟨⟨a, ha, ha'⟩, ⟨b, hb1, hb2⟩, ⟨c, hc, hc'⟩, ⟨e, he, he'⟩⟩ := h
  exact ⟨⟨a, ownsRow_base ha hb, ha'⟩, ⟨b, ownsRow_base hb1 hb, hb2⟩, ⟨c, ownsRow_base hc hb, hc'⟩, ⟨e, ownsRow_base he hb, he'⟩⟩
theorem Lists.plan {w : World} {B : Nat} {v0 v1 v2 v3 : Value} {d : PlanD} (h : Lists w B v0 v1 v2 v3 d) : IsPlan w w.heap.size (.agg #[v0, v1, v2, v3, .int .i64 d.l, .int .i64 d.p, .int .i64 d.t]) d :=
  plan_of_owned h.o0 h.o1 h.o2 h.o3
theorem Bytes.more {w : World} {B B' n : Nat} {A : Option Addr} (h : Bytes w B A n) (hB : B ≤ B') : Bytes w B' A n := fun hn => by
  obtain ⟨b, off, e, hlt, hc⟩ := h hn
  exact ⟨b, off, e, by omega, hc⟩
/-- A plan and a number. -/
def AtPlan (w : World) (e : Ending) (w' : World) : Prop :=
  ∃ v0 v1 v2 v3 d k, e = .returned (.tuple #[.agg #[v0, v1, v2, v3, .int .i64 d.l, .int .i64 d.p, .int .i64 d.t], .int .i64 k]) ∧ Lists w' w.heap.size v0 v1 v2 v3 d ∧ d.n0 ≤ 13 ∧ d.n2 ≤ 5 ∧ Below w.heap.size w w'

set_option maxRecDepth 100000 in
set_option maxHeartbeats 1000000 in
theorem drawAt_of (HA : Hid (∀ (g : Nat) (w : World), Cur 95 .i64 w g → Calls Try.prog 59 #[.pointer (some ⟨g, 0, none⟩)] w (DrawnPlan 95 .i64 (fun d => d.n0 ≤ 13 ∧ d.n1 ≤ 4 ∧ d.n2 ≤ 5 ∧ d.n3 ≤ 3) g w)))
    (A : Option Addr) (n c : Nat) (w : World) (hB : Bytes w w.heap.size A n) (hn : n ≤ 4096) : Calls Try.prog 33 #[.slice A n c] w (AtPlan w) := by
  have HB := Lib.hid hB
  clear hB
  go_enter Try.func33, Try.ntmps33
  go_wp2_with fail
  have X1 := Own.box w (planC none none none none 0 0 0 0 0 0 0 0 0 0 0) 29
  have hR1 := heap_alloc_new w (.cells (planC none none none none 0 0 0 0 0 0 0 0 0 0 0) 29)
  refine (l1New_any A n c _ ((HB.out.below X1.K (Nat.le_refl _)).more X1.K.size) hn).mono ?_
  rintro e w2 ⟨g, rfl, hg, hc, hb⟩
  have X2 := X1.step hb
  have hR2 := (hb.block _ X1.z).trans hR1
  have hgw : w.heap.size < g := by rw [heap_size_alloc_] at hg; omega
  have h2 : w.heap.size ≤ w2.heap.size := X2.K.size
  clear hb X1 hg hR1
  go_wp2_with fail
  refine (HA.out g _ hc).mono ?_
  rintro e w3 ⟨v0, v1, v2, v3, d, rfl, o0, o1, o2, o3, hc3, hk, b0, b1, b2, b3⟩
  have X3 := X2.keeps hk (by rintro b rfl; omega) (by show ¬ w.heap.size = g; omega)
  have hR3 := (hk.block _ X2.z (by show ¬ w.heap.size = g; omega)).trans hR2
  have hlg := hc3.lt
  have L3 : Lists w3 w2.heap.size v0 v1 v2 v3 d := ⟨o0, o1, o2, o3⟩
  obtain ⟨V0, C0, rfl, -, -⟩ := o0.form
  obtain ⟨V1, C1, rfl, -, -⟩ := o1.form
  obtain ⟨V2, C2, rfl, -, -⟩ := o2.form
  obtain ⟨V3, C3, rfl, -, -⟩ := o3.form
  clear X2 hk hc o0 o1 o2 o3 hR2
  go_wp2_with fail
  have Y := Own.box2 X3.K (planC V0 V1 V2 V3 d.n0 C0 d.n1 C1 d.n2 C2 d.n3 C3 d.l d.p d.t) 29
  have hb4 : Below w3.heap.size w3 (w3.alloc (.cells (planC V0 V1 V2 V3 d.n0 C0 d.n1 C1 d.n2 C2 d.n3 C3 d.l d.p d.t) 29)) := (Below.refl _ _).alloc (Nat.le_refl _) _
  have X4 := X3.step hb4
  have hc4 := hc3.below hb4
  have L4 := Lib.hid (L3.below hb4)
  have hR4 := (hb4.block _ X3.z).trans hR3
  have hPR : w.heap.size < w3.heap.size := X3.z
  clear hb4 X3 hc3 L3 hR3
  generalize w3.alloc (.cells (planC V0 V1 V2 V3 d.n0 C0 d.n1 C1 d.n2 C2 d.n3 C3 d.l d.p d.t) 29) = w4 at Y X4 hc4 L4 hR4 ⊢
  have Yd := Y.step (Below.refl _ _).drew
  have Xd := X4.step (Below.refl _ _).drew
  have hcd := hc4.below (Below.refl _ _).drew
  have Ld := Lib.hid (L4.out.below (Below.refl _ _).drew)
  have HRd := Lib.hid (((Below.refl w4.heap.size w4).drew.block _ X4.z).trans hR4)
  have q0 := Yd.C
  have q1 := Xd.C
  have q2 := Xd.F
  clear Y X4 hc4 L4 hR4
  go_region_law (first
    | (have hq := hcd
       clear hq
       go_simp
       go_at_call 60
       refine (l1From_any g _ _ _ hcd (by omega) (by omega) (by omega) (by omega)).mono ?_
       rintro e w5 ⟨k, rfl, k0, k1, hc5, hk5⟩
       have Y5 := Yd.keeps hk5 (by rintro b rfl; omega) (by show ¬ w3.heap.size = g; omega)
       have X5 := Xd.keeps hk5 (by rintro b rfl; omega) (by show ¬ w.heap.size = g; omega)
       have r0 := Y5.C
       have r1 := X5.C
       have r2 := X5.F))
  all_goals
    obtain ⟨gs, hgh⟩ := hcd.head
    have L5 := Ld.out.keeps hk5 hgh (by decide)
    have HR5 := (hk5.block _ Xd.z (by show ¬ w.heap.size = g; omega)).trans HRd.out
    have KR := ((((((((Keeps.refl (· = w.heap.size) w5).set (p := ⟨w.heap.size, 0, none⟩) rfl (.slice V0 d.n0 C0)).set (p := ⟨w.heap.size, 1, none⟩) rfl (.slice V1 d.n1 C1)).set (p := ⟨w.heap.size, 2, none⟩) rfl (.slice V2 d.n2 C2)).set (p := ⟨w.heap.size, 3, none⟩) rfl (.slice V3 d.n3 C3)).set (p := ⟨w.heap.size, 4, none⟩) rfl (.int .i64 d.l)).set (p := ⟨w.heap.size, 5, none⟩) rfl (.int .i64 d.p)).set (p := ⟨w.heap.size, 6, none⟩) rfl (.int .i64 d.t))
    have L6 := Lib.hid ((L5.keeps KR HR5 (by decide)).base h2)
    have X6 := Lib.hid (X5.K.trans (KR.below X5.K.size (fun b hb e => by have e : b = w.heap.size := e; omega)))
    clear KR HR5 L5 hk5 Ld HRd
    go_wp2_with fail
    refine bodyPost_ret (v := .tuple #[.agg #[.slice V0 d.n0 C0, .slice V1 d.n1 C1, .slice V2 d.n2 C2, .slice V3 d.n3 C3, .int .i64 d.l, .int .i64 d.p, .int .i64 d.t], .int .i64 k]) ?_ rfl ⟨_, _, _, _, d, k, rfl, L6.out, b0, b2, X6.out⟩
    simp [results, Try.results33, go_sem, r1]

theorem drawPodsIn_of (HA : Hid (∀ (g : Nat) (w : World), Cur 95 .i64 w g → Calls Try.prog 59 #[.pointer (some ⟨g, 0, none⟩)] w (DrawnPlan 95 .i64 (fun d => d.n0 ≤ 13 ∧ d.n1 ≤ 4 ∧ d.n2 ≤ 5 ∧ d.n3 ≤ 3) g w)))
    (A : Option Addr) (n c : Nat) (w : World) (hB : Bytes w w.heap.size A n) (hn : n ≤ 4096) : Calls Try.prog 14 #[.slice A n c] w (AtPlan w) := by
  have HB := Lib.hid hB
  clear hB
  go_enter Try.func14, Try.ntmps14
  go_wp2_with fail
  have X1 := Own.box w (planC none none none none 0 0 0 0 0 0 0 0 0 0 0) 29
  have hR1 := heap_alloc_new w (.cells (planC none none none none 0 0 0 0 0 0 0 0 0 0 0) 29)
  refine (drawAt_of HA A n c _ ((HB.out.below X1.K (Nat.le_refl _)).more X1.K.size) hn).mono ?_
  rintro e w2 ⟨v0, v1, v2, v3, d, k, rfl, L, b0, b2, hb⟩
  have X2 := X1.step hb
  have hR2 := (hb.block _ X1.z).trans hR1
  have L2 := L.base X1.K.size
  obtain ⟨V0, C0, rfl, -, -⟩ := L.o0.form
  obtain ⟨V1, C1, rfl, -, -⟩ := L.o1.form
  obtain ⟨V2, C2, rfl, -, -⟩ := L.o2.form
  obtain ⟨V3, C3, rfl, -, -⟩ := L.o3.form
  have KR := ((((((((Keeps.refl (· = w.heap.size) w2).set (p := ⟨w.heap.size, 0, none⟩) rfl (.slice V0 d.n0 C0)).set (p := ⟨w.heap.size, 1, none⟩) rfl (.slice V1 d.n1 C1)).set (p := ⟨w.heap.size, 2, none⟩) rfl (.slice V2 d.n2 C2)).set (p := ⟨w.heap.size, 3, none⟩) rfl (.slice V3 d.n3 C3)).set (p := ⟨w.heap.size, 4, none⟩) rfl (.int .i64 d.l)).set (p := ⟨w.heap.size, 5, none⟩) rfl (.int .i64 d.p)).set (p := ⟨w.heap.size, 6, none⟩) rfl (.int .i64 d.t))
  have L6 := Lib.hid (L2.keeps KR hR2 (by decide))
  have X6 := Lib.hid (X2.K.trans (KR.below X2.K.size (fun b hb e => by have e : b = w.heap.size := e; omega)))
  have r1 := X2.C
  have r2 := X2.F
  clear KR hR2 hR1 L L2 hb X1 X2
  go_wp2_with fail
  refine bodyPost_ret (v := .tuple #[.agg #[.slice V0 d.n0 C0, .slice V1 d.n1 C1, .slice V2 d.n2 C2, .slice V3 d.n3 C3, .int .i64 d.l, .int .i64 d.p, .int .i64 d.t], .int .i64 k]) ?_ rfl ⟨_, _, _, _, d, k, rfl, L6.out, b0, b2, X6.out⟩
  simp [results, Try.results14, go_sem, r1]

theorem pod_in {d : PlanD} (h : planOkB d = true) {i : Nat} (hi : i < d.n0) : (0 : Int) ≤ d.x0 (i * 4) ∧ d.x0 (i * 4) < 0 + d.n1 := by
  simp only [planOkB, Bool.and_eq_true] at h
  have := allB_true.1 h.1.1.1.2 i hi
  simp [podB, inB] at this
  omega
theorem mount_in {d : PlanD} (h : planOkB d = true) {i : Nat} (hi : i < d.n2) : (0 : Int) ≤ d.x2 (i * 2) ∧ d.x2 (i * 2) < 0 + d.n0 := by
  simp only [planOkB, Bool.and_eq_true] at h
  have := allB_true.1 h.1.2 i hi
  simp [mountB, inB] at this
  omega
theorem parent_in {d : PlanD} (h : planOkB d = true) {i : Nat} (hi : i < d.n2) : (-1 : Int) ≤ d.x2 (i * 2 + 1) ∧ d.x2 (i * 2 + 1) < -1 + (d.n2 + 1 : Nat) := by
  simp only [planOkB, Bool.and_eq_true] at h
  have := allB_true.1 h.1.2 i hi
  simp [mountB, inB] at this
  omega
/-- A list made while nothing that was there turned. -/
def HeldList (w0 W : World) (L : List Int) (e : Ending) (W' : World) : Prop := ∃ v, e = .returned v ∧ Lst W' v L ∧ Below W.heap.size W W' ∧ Below w0.heap.size w0 W'
theorem HeldList.of {w0 W W' : World} {L : List Int} {e : Ending} (h : Listed W L e W') (K : Below w0.heap.size w0 W) : HeldList w0 W L e W' := by
  obtain ⟨v, he, O, hb⟩ := h
  exact ⟨v, he, Lst.of O, hb, K.trans (hb.mono K.size)⟩
set_option maxRecDepth 100000 in
set_option maxHeartbeats 4000000 in
theorem lawPlans_of (HA : Hid (∀ (g : Nat) (w : World), Cur 95 .i64 w g → Calls Try.prog 59 #[.pointer (some ⟨g, 0, none⟩)] w (DrawnPlan 95 .i64 (fun d => d.n0 ≤ 13 ∧ d.n1 ≤ 4 ∧ d.n2 ≤ 5 ∧ d.n3 ≤ 3) g w)))
    (HS : Hid (∀ (g : Nat) (w : World), Cur 59 .u64 w g → Calls Try.prog 9 #[.pointer (some ⟨g, 0, none⟩)] w (DrawnPlan 59 .u64 (fun d => planOkB d = true ∧ d.n0 ≤ 6 ∧ d.n1 ≤ 3 ∧ d.n2 ≤ 5 ∧ d.n3 ≤ 3) g w)))
    (A : Option Addr) (n c : Nat) (w : World) (hB : Bytes w w.heap.size A n) (hn : n ≤ maxLen) : Calls Try.prog 3 #[.slice A n c] w fun e w' => e = .returned (.bool true) ∧ Below w.heap.size w w' := by
  have HB := Lib.hid hB
  clear hB
  go_enter Try.func3, Try.ntmps3
  go_wp2_with fail
  refine (big_any A n c _ hn).mono ?_
  rintro e w2 ⟨rfl, rfl⟩
  by_cases hbig : 4096 < (n : Int)
  · go_wp2_with fail
    go_ret
    exact ⟨rfl, Below.refl _ _⟩
  · have hn4 : n ≤ 4096 := by omega
    clear hbig
    go_wp2_with fail
    refine (roll_any A n c 2 _ HB.out hn4).mono ?_
    rintro e w2 ⟨g, rfl, hg, hc, hb⟩
    have K2 := Lib.hid hb
    clear hb
    go_wp2_with fail
    refine (HS.out g _ hc).mono ?_
    rintro e w3 ⟨v0, v1, v2, v3, d, rfl, o0, o1, o2, o3, hc3, hk, hq, b0, b1, b2, b3⟩
    have L3 : Lists w3 w2.heap.size v0 v1 v2 v3 d := ⟨o0, o1, o2, o3⟩
    have K3 := Lib.hid (K2.out.trans (hk.below (B := w.heap.size) K2.out.size (fun b hb e => by have e : b = g := e; omega)))
    have HQ := Lib.hid hq
    have h23 : w2.heap.size ≤ w3.heap.size := hk.size
    obtain ⟨V0, C0, rfl, -, -⟩ := o0.form
    obtain ⟨V1, C1, rfl, -, -⟩ := o1.form
    obtain ⟨V2, C2, rfl, -, -⟩ := o2.form
    obtain ⟨V3, C3, rfl, -, -⟩ := o3.form
    clear hk hc hc3 o0 o1 o2 o3 hq K2 HS
    go_wp2_with fail
    have hb4 : Below w3.heap.size w3 (w3.alloc (.cells (planC V0 V1 V2 V3 d.n0 C0 d.n1 C1 d.n2 C2 d.n3 C3 d.l d.p d.t) 29)) := (Below.refl _ _).alloc (Nat.le_refl _) _
    have Y := Own.box2 K3.out (planC V0 V1 V2 V3 d.n0 C0 d.n1 C1 d.n2 C2 d.n3 C3 d.l d.p d.t) 29
    have P4 := Lib.hid (L3.below hb4).plan
    clear hb4 L3 K3 h23
    generalize w3.alloc (.cells (planC V0 V1 V2 V3 d.n0 C0 d.n1 C1 d.n2 C2 d.n3 C3 d.l d.p d.t) 29) = w4 at Y P4 ⊢
    go_loopw [4, 5] (fun s i wr => ∃ k : Nat, k ≤ d.n1 ∧ i = .int .i64 k ∧ s = .int .i64 (cnt d.n0 (fun i => d.x0 (i * 4)) 0 k) ∧ Below w4.heap.size w4 wr) (fun _ i _ => d.n1 - (intOf i).toNat)
    case atStart => exact ⟨0, Nat.zero_le _, rfl, by rw [cnt_zero]; rfl, Below.refl _ _⟩
    case round =>
      obtain ⟨k, hk, rfl, rfl, K⟩ := hrel
      have YK := Y.step K
      have hC := YK.C
      have hle := cnt_le d.n0 (fun i => d.x0 (i * 4)) 0 k
      by_cases hlt : k < d.n1
      · have hP := (P4.out.below K (Nat.le_refl _)).more K.size
        have hst := cnt_step d.n0 (fun i => d.x0 (i * 4)) 0 k
        rw [Int.zero_add] at hst
        have hle2 := cnt_le d.n0 (fun i => d.x0 (i * 4)) 0 (k + 1)
        generalize cnt d.n0 (fun i => d.x0 (i * 4)) 0 k = N1 at hst hle ⊢
        have HST := Lib.hid hst
        clear hst
        go_wp2_with (go_at_call 11; refine (implPodsIn_any _ d k _ hP (by omega)).mono ?_; rintro e w5 ⟨v, rfl, O, hb⟩; rw [found_yes HQ.out] at O; obtain ⟨A', c', rfl, -⟩ := Lst.of O; have hst := HST.out)
        exact ⟨⟨k + 1, by omega, by go_num, by rw [hst]; go_num, K.trans (hb.mono K.size)⟩, by simp [intOf]; omega⟩
      · obtain rfl : k = d.n1 := by omega
        have hall : cnt d.n0 (fun i => d.x0 (i * 4)) 0 d.n1 = d.n0 := cnt_full fun i hi => pod_in HQ.out hi
        rw [hall]
        clear hall hle hlt
        go_wp2_with fail
        go_loopw [6, 7] (fun s i wr => ∃ k : Nat, k ≤ d.n2 + 1 ∧ i = .int .i64 (-1 + k) ∧ s = .int .i64 (cnt d.n2 (fun i => d.x2 (i * 2 + 1)) (-1) k) ∧ Below w4.heap.size w4 wr) (fun _ i _ => d.n2 + 1 - (intOf i + 1).toNat)
        case atStart => exact ⟨0, Nat.zero_le _, rfl, by rw [cnt_zero]; rfl, K⟩
        case round =>
          clear K YK hC hk
          obtain ⟨k, hk, rfl, rfl, K⟩ := hrel
          have YK := Y.step K
          have hC := YK.C
          have hle := cnt_le d.n2 (fun i => d.x2 (i * 2 + 1)) (-1) k
          by_cases hlt : k < d.n2 + 1
          · have hP := (P4.out.below K (Nat.le_refl _)).more K.size
            have hst := cnt_step d.n2 (fun i => d.x2 (i * 2 + 1)) (-1) k
            have hle2 := cnt_le d.n2 (fun i => d.x2 (i * 2 + 1)) (-1) (k + 1)
            generalize cnt d.n2 (fun i => d.x2 (i * 2 + 1)) (-1) k = N1 at hst hle ⊢
            have HST := Lib.hid hst
            clear hst
            go_wp2_with (go_at_call 12; refine (implChildrenOf_any _ d (-1 + k) _ hP (by omega)).mono ?_; rintro e w5 ⟨v, rfl, O, hb⟩; rw [found_yes HQ.out] at O; obtain ⟨A', c', rfl, -⟩ := Lst.of O; have hst := HST.out)
            exact ⟨⟨k + 1, by omega, by go_num, by rw [hst]; go_num, K.trans (hb.mono K.size)⟩, by simp [intOf]; omega⟩
          · obtain rfl : k = d.n2 + 1 := by omega
            have hall : cnt d.n2 (fun i => d.x2 (i * 2 + 1)) (-1) (d.n2 + 1) = d.n2 := cnt_full fun i hi => parent_in HQ.out hi
            have hend : (-1 : Int) + (d.n2 + 1 : Nat) = d.n2 := by omega
            rw [hall, hend]
            clear hall hle hlt hend
            go_wp2_with fail
            go_loopw [8, 9] (fun s i wr => ∃ k : Nat, k ≤ d.n0 ∧ i = .int .i64 k ∧ s = .int .i64 (cnt d.n2 (fun i => d.x2 (i * 2)) 0 k) ∧ Below w4.heap.size w4 wr) (fun _ i _ => d.n0 - (intOf i).toNat)
            case atStart => exact ⟨0, Nat.zero_le _, rfl, by rw [cnt_zero]; rfl, K⟩
            case round =>
              clear K YK hC hk
              obtain ⟨k, hk, rfl, rfl, K⟩ := hrel
              have YK := Y.step K
              have hC := YK.C
              have hle := cnt_le d.n2 (fun i => d.x2 (i * 2)) 0 k
              by_cases hlt : k < d.n0
              · have hP := (P4.out.below K (Nat.le_refl _)).more K.size
                have hst := cnt_step d.n2 (fun i => d.x2 (i * 2)) 0 k
                rw [Int.zero_add] at hst
                have hle2 := cnt_le d.n2 (fun i => d.x2 (i * 2)) 0 (k + 1)
                generalize cnt d.n2 (fun i => d.x2 (i * 2)) 0 k = N1 at hst hle ⊢
                have HST := Lib.hid hst
                clear hst
                go_wp2_with (go_at_call 13; refine (implMountsOf_any _ d k _ hP (by omega)).mono ?_; rintro e w5 ⟨v, rfl, O, hb⟩; rw [found_yes HQ.out] at O; obtain ⟨A', c', rfl, -⟩ := Lst.of O; have hst := HST.out)
                exact ⟨⟨k + 1, by omega, by go_num, by rw [hst]; go_num, K.trans (hb.mono K.size)⟩, by simp [intOf]; omega⟩
              · obtain rfl : k = d.n0 := by omega
                have hall : cnt d.n2 (fun i => d.x2 (i * 2)) 0 d.n0 = d.n2 := cnt_full fun i hi => mount_in HQ.out hi
                rw [hall]
                clear hall hle hlt hk
                go_wp2_with fail
                refine (drawPodsIn_of HA A n c _ ((HB.out.below YK.K (Nat.le_refl _)).more YK.K.size) hn4).mono ?_
                rintro e w6 ⟨u0, u1, u2, u3, q, at_, rfl, L6, q0, q2, hb⟩
                have Y6 := YK.step hb
                have P6 := Lib.hid ((P4.out.below (K.trans (hb.mono K.size)) (Nat.le_refl _)).more (K.trans (hb.mono K.size)).size)
                obtain ⟨U0, G0, rfl, -, -⟩ := L6.o0.form
                obtain ⟨U1, G1, rfl, -, -⟩ := L6.o1.form
                obtain ⟨U2, G2, rfl, -, -⟩ := L6.o2.form
                obtain ⟨U3, G3, rfl, -, -⟩ := L6.o3.form
                clear YK K hC hb
                go_wp2_with fail
                have hb7 : Below w6.heap.size w6 (w6.alloc (.cells (planC U0 U1 U2 U3 q.n0 G0 q.n1 G1 q.n2 G2 q.n3 G3 q.l q.p q.t) 29)) := (Below.refl _ _).alloc (Nat.le_refl _) _
                have Z7 := Own.box2 Y6.K (planC U0 U1 U2 U3 q.n0 G0 q.n1 G1 q.n2 G2 q.n3 G3 q.l q.p q.t) 29
                have Y7 := Y6.step hb7
                have P7 := Lib.hid ((P6.out.below hb7 (Nat.le_refl _)).more hb7.size)
                have Q7 := Lib.hid (L6.below hb7).plan
                clear hb7 Y6 P6 L6 Y P4 HB
                generalize w6.alloc (.cells (planC U0 U1 U2 U3 q.n0 G0 q.n1 G1 q.n2 G2 q.n3 G3 q.l q.p q.t) 29) = w7 at Z7 Y7 P7 Q7 ⊢
                have HI1 : Hid (∀ W, Below w7.heap.size w7 W → Calls Try.prog 11 #[.agg #[.slice U0 q.n0 G0, .slice U1 q.n1 G1, .slice U2 q.n2 G2, .slice U3 q.n3 G3, .int .i64 q.l, .int .i64 q.p, .int .i64 q.t], .int .i64 at_] W (HeldList w7 W (found q q.n0 (fun i => q.x0 (i * 4)) at_))) :=
                  Lib.hid fun W K => (implPodsIn_any _ q at_ W ((Q7.out.below K (Nat.le_refl _)).more K.size) (by omega)).mono fun e W' h => HeldList.of h K
                have HJ1 : Hid (∀ W, Below w7.heap.size w7 W → Calls Try.prog 18 #[.agg #[.slice U0 q.n0 G0, .slice U1 q.n1 G1, .slice U2 q.n2 G2, .slice U3 q.n3 G3, .int .i64 q.l, .int .i64 q.p, .int .i64 q.t], .int .i64 at_] W (HeldList w7 W (found q q.n0 (fun i => q.x0 (i * 4)) at_))) :=
                  Lib.hid fun W K => (specPodsIn_any _ q at_ W ((Q7.out.below K (Nat.le_refl _)).more K.size) (by omega)).mono fun e W' h => HeldList.of h K
                have HL1 : Hid ((found q q.n0 (fun i => q.x0 (i * 4)) at_).length ≤ maxLen) := Lib.hid (Nat.le_trans (found_le _ _ _ _) (by unfold maxLen; omega))
                have HI2 : Hid (∀ W, Below w7.heap.size w7 W → Calls Try.prog 12 #[.agg #[.slice U0 q.n0 G0, .slice U1 q.n1 G1, .slice U2 q.n2 G2, .slice U3 q.n3 G3, .int .i64 q.l, .int .i64 q.p, .int .i64 q.t], .int .i64 at_] W (HeldList w7 W (found q q.n2 (fun i => q.x2 (i * 2 + 1)) at_))) :=
                  Lib.hid fun W K => (implChildrenOf_any _ q at_ W ((Q7.out.below K (Nat.le_refl _)).more K.size) (by omega)).mono fun e W' h => HeldList.of h K
                have HJ2 : Hid (∀ W, Below w7.heap.size w7 W → Calls Try.prog 19 #[.agg #[.slice U0 q.n0 G0, .slice U1 q.n1 G1, .slice U2 q.n2 G2, .slice U3 q.n3 G3, .int .i64 q.l, .int .i64 q.p, .int .i64 q.t], .int .i64 at_] W (HeldList w7 W (found q q.n2 (fun i => q.x2 (i * 2 + 1)) at_))) :=
                  Lib.hid fun W K => (specChildrenOf_any _ q at_ W ((Q7.out.below K (Nat.le_refl _)).more K.size) (by omega)).mono fun e W' h => HeldList.of h K
                have HL2 : Hid ((found q q.n2 (fun i => q.x2 (i * 2 + 1)) at_).length ≤ maxLen) := Lib.hid (Nat.le_trans (found_le _ _ _ _) (by unfold maxLen; omega))
                have HI3 : Hid (∀ W, Below w7.heap.size w7 W → Calls Try.prog 13 #[.agg #[.slice U0 q.n0 G0, .slice U1 q.n1 G1, .slice U2 q.n2 G2, .slice U3 q.n3 G3, .int .i64 q.l, .int .i64 q.p, .int .i64 q.t], .int .i64 at_] W (HeldList w7 W (found q q.n2 (fun i => q.x2 (i * 2)) at_))) :=
                  Lib.hid fun W K => (implMountsOf_any _ q at_ W ((Q7.out.below K (Nat.le_refl _)).more K.size) (by omega)).mono fun e W' h => HeldList.of h K
                have HJ3 : Hid (∀ W, Below w7.heap.size w7 W → Calls Try.prog 20 #[.agg #[.slice U0 q.n0 G0, .slice U1 q.n1 G1, .slice U2 q.n2 G2, .slice U3 q.n3 G3, .int .i64 q.l, .int .i64 q.p, .int .i64 q.t], .int .i64 at_] W (HeldList w7 W (found q q.n2 (fun i => q.x2 (i * 2)) at_))) :=
                  Lib.hid fun W K => (specMountsOf_any _ q at_ W ((Q7.out.below K (Nat.le_refl _)).more K.size) (by omega)).mono fun e W' h => HeldList.of h K
                have HL3 : Hid ((found q q.n2 (fun i => q.x2 (i * 2)) at_).length ≤ maxLen) := Lib.hid (Nat.le_trans (found_le _ _ _ _) (by unfold maxLen; omega))
                have HP1 : Hid (∀ W, Below w7.heap.size w7 W → Calls Try.prog 15 #[.agg #[.slice V0 d.n0 C0, .slice V1 d.n1 C1, .slice V2 d.n2 C2, .slice V3 d.n3 C3, .int .i64 d.l, .int .i64 d.p, .int .i64 d.t]] W (fun e W' => e = .returned (.bool true) ∧ Below w7.heap.size w7 W')) :=
                  Lib.hid fun W K => (planOk_any _ d W ((P7.out.below K (Nat.le_refl _)).more K.size)).mono fun e W' ⟨h, b⟩ => ⟨by rw [h, HQ.out], K.trans (b.mono K.size)⟩
                obtain ⟨bq, hbq⟩ : ∃ b, planOkB q = b := ⟨_, rfl⟩
                have HP2 : Hid (∀ W, Below w7.heap.size w7 W → Calls Try.prog 15 #[.agg #[.slice U0 q.n0 G0, .slice U1 q.n1 G1, .slice U2 q.n2 G2, .slice U3 q.n3 G3, .int .i64 q.l, .int .i64 q.p, .int .i64 q.t]] W (fun e W' => e = .returned (.bool bq) ∧ Below w7.heap.size w7 W')) :=
                  Lib.hid fun W K => (planOk_any _ q W ((Q7.out.below K (Nat.le_refl _)).more K.size)).mono fun e W' ⟨h, b⟩ => ⟨by rw [h, hbq], K.trans (b.mono K.size)⟩
                have HP3 : Hid (∀ W, Below w7.heap.size w7 W → Calls Try.prog 16 #[.agg #[.slice U0 q.n0 G0, .slice U1 q.n1 G1, .slice U2 q.n2 G2, .slice U3 q.n3 G3, .int .i64 q.l, .int .i64 q.p, .int .i64 q.t]] W (fun e W' => e = .returned (.bool bq) ∧ Below w7.heap.size w7 W')) :=
                  Lib.hid fun W K => (spec_planOk_any _ q W ((Q7.out.below K (Nat.le_refl _)).more K.size)).mono fun e W' ⟨h, b⟩ => ⟨by rw [h, hbq], K.trans (b.mono K.size)⟩
                have K7 : Below w7.heap.size w7 w7 := Below.refl _ _
                have K8 : Below w7.heap.size w7 w7.drew := K7.drew
                have S7 := And.intro (Y7.step K7).C (And.intro (Z7.step K7).C K7)
                have S8 := And.intro (Y7.step K8).C (And.intro (Z7.step K8).C K8)
                clear hbq P7 Q7
                go_region_held3 (fun w' => (∀ o, w'.cell? ⟨w3.heap.size, o, none⟩ = (planC V0 V1 V2 V3 d.n0 C0 d.n1 C1 d.n2 C2 d.n3 C3 d.l d.p d.t)[o]?) ∧ (∀ o, w'.cell? ⟨w6.heap.size, o, none⟩ = (planC U0 U1 U2 U3 q.n0 G0 q.n1 G1 q.n2 G2 q.n3 G3 q.l q.p q.t)[o]?) ∧ Below w7.heap.size w7 w')
                  (first | assumption)
                  (first
                    | (have hq := Kp1
                       clear hq
                       go_at_call 15
                       refine (HP2.out _ (by assumption)).mono ?_
                       rintro e wp2 ⟨rfl, Kp2⟩
                       have Sp2 := And.intro (Y7.step Kp2).C (And.intro (Z7.step Kp2).C Kp2))
                    | (go_at_call 15
                       refine (HP1.out _ (by assumption)).mono ?_
                       rintro e wp1 ⟨rfl, Kp1⟩
                       have Sp1 := And.intro (Y7.step Kp1).C (And.intro (Z7.step Kp1).C Kp1))
                    | (go_at_call 16
                       refine (HP3.out _ (by assumption)).mono ?_
                       rintro e wp3 ⟨rfl, Kp3⟩
                       have Sp3 := And.intro (Y7.step Kp3).C (And.intro (Z7.step Kp3).C Kp3))
                    | (go_at_call 11
                       refine (HI1.out _ (by assumption)).mono ?_
                       rintro e wa1 ⟨va1, rfl, La1, hba1, Ka1⟩
                       have Sa1 := And.intro (Y7.step Ka1).C (And.intro (Z7.step Ka1).C Ka1))
                    | (go_at_call 18
                       refine (HJ1.out _ (by assumption)).mono ?_
                       rintro e wb1 ⟨vb1, rfl, Lb1, hbb1, Kb1⟩
                       have Ma1 := La1.go hbb1
                       have Sb1 := And.intro (Y7.step Kb1).C (And.intro (Z7.step Kb1).C Kb1))
                    | (go_at_call 12
                       refine (HI2.out _ (by assumption)).mono ?_
                       rintro e wa2 ⟨va2, rfl, La2, hba2, Ka2⟩
                       have Sa2 := And.intro (Y7.step Ka2).C (And.intro (Z7.step Ka2).C Ka2))
                    | (go_at_call 19
                       refine (HJ2.out _ (by assumption)).mono ?_
                       rintro e wb2 ⟨vb2, rfl, Lb2, hbb2, Kb2⟩
                       have Ma2 := La2.go hbb2
                       have Sb2 := And.intro (Y7.step Kb2).C (And.intro (Z7.step Kb2).C Kb2))
                    | (go_at_call 13
                       refine (HI3.out _ (by assumption)).mono ?_
                       rintro e wa3 ⟨va3, rfl, La3, hba3, Ka3⟩
                       have Sa3 := And.intro (Y7.step Ka3).C (And.intro (Z7.step Ka3).C Ka3))
                    | (go_at_call 20
                       refine (HJ3.out _ (by assumption)).mono ?_
                       rintro e wb3 ⟨vb3, rfl, Lb3, hbb3, Kb3⟩
                       have Ma3 := La3.go hbb3
                       have Sb3 := And.intro (Y7.step Kb3).C (And.intro (Z7.step Kb3).C Kb3))
                    | (have hq := Ma3
                       clear hq
                       go_at_call 17
                       refine (likeInts_same _ _ _ _ Ma3 Lb3 HL3.out).mono ?_
                       rintro e wc3 ⟨rfl, hbc3⟩
                       have Kc3 := Kb3.trans (hbc3.mono Kb3.size)
                       have Sc3 := And.intro (Y7.step Kc3).C (And.intro (Z7.step Kc3).C Kc3))
                    | (have hq := Ma2
                       clear hq
                       go_at_call 17
                       refine (likeInts_same _ _ _ _ Ma2 Lb2 HL2.out).mono ?_
                       rintro e wc2 ⟨rfl, hbc2⟩
                       have Kc2 := Kb2.trans (hbc2.mono Kb2.size)
                       have Sc2 := And.intro (Y7.step Kc2).C (And.intro (Z7.step Kc2).C Kc2))
                    | (have hq := Ma1
                       clear hq
                       go_at_call 17
                       refine (likeInts_same _ _ _ _ Ma1 Lb1 HL1.out).mono ?_
                       rintro e wc1 ⟨rfl, hbc1⟩
                       have Kc1 := Kb1.trans (hbc1.mono Kb1.size)
                       have Sc1 := And.intro (Y7.step Kc1).C (And.intro (Z7.step Kc1).C Kc1)))
                have hend := Y7.K.trans (Kc3.mono Y7.K.size)
                go_wp2_with fail
                go_ret
                exact ⟨rfl, hend⟩
end Go.Proofs.Ytdoipcgegdnfnaa
