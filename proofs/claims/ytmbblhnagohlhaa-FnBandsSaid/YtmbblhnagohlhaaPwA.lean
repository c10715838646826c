/-
  Counts; lists compared; the model's draw of a plan and a number.
-/
import Derived.Test.YtmbblhnagohlhaaPsB
import Derived.Test.YtmbblhnagohlhaaPmA
set_option linter.unusedVariables false
namespace Go.Proofs.Ytmbblhnagohlhaa
open Go.RowKit

/-- How many of n numbers lie from lo to lo + k - 1. -/
def cnt : Nat → (Nat → Int) → Int → Nat → Nat
  | 0, _, _, _ => 0
  | n + 1, f, lo, k => cnt n f lo k + (if lo ≤ f n ∧ f n < lo + k then 1 else 0)
theorem cnt_zero (n : Nat) (f : Nat → Int) (lo : Int) : cnt n f lo 0 = 0 := by
  induction n with
  | zero => rfl
  | succ n ih => unfold cnt; rw [ih, if_neg (by omega)]
theorem cnt_step (n : Nat) (f : Nat → Int) (lo : Int) (k : Nat) : cnt n f lo (k + 1) = cnt n f lo k + (hits n f (lo + k)).length := by
  induction n with
  | zero => rfl
  | succ n ih =>
    simp only [cnt]
    rw [ih]
    cases h : (f n == lo + k)
    · rw [hits_no h]
      have h := ne_of_beq_false h
      by_cases e : lo ≤ f n ∧ f n < lo + k
      · rw [if_pos e, if_pos (by omega)]; omega
      · rw [if_neg e, if_neg (by omega)]; omega
    · rw [hits_yes h]
      have h := eq_of_beq h
      rw [if_pos (by omega), if_neg (by omega), List.length_append]
      simp
      omega
theorem cnt_full {n : Nat} {f : Nat → Int} {lo : Int} {k : Nat} (h : ∀ i, i < n → lo ≤ f i ∧ f i < lo + k) : cnt n f lo k = n := by
  induction n with
  | zero => rfl
  | succ n ih => unfold cnt; rw [ih fun i hi => h i (by omega), if_pos (h n (by omega))]
theorem cnt_le (n : Nat) (f : Nat → Int) (lo : Int) (k : Nat) : cnt n f lo k ≤ n := by
  induction n with
  | zero => exact Nat.le_refl _
  | succ n ih => unfold cnt; split <;> omega

/-- A list of whole numbers, opened. -/
structure Lst (w : World) (v : Value) (L : List Int) : Prop where
  it : ∃ A c, v = .slice A L.length c ∧ Sl w w.heap.size 1 A L.length (fun j => L.getD j 0)
theorem Lst.of {w : World} {B : Nat} {v : Value} {L : List Int} (h : w.ownsRow B 2 1 v L.length (L.map (Value.int .i64))) : Lst w v L := by
  obtain ⟨A, c, g, rfl, hA, _, hz, R⟩ := open_list h
  exact ⟨A, c, rfl, row_sl hA hz R⟩
theorem Lst.go {w w' : World} {v : Value} {L : List Int} (h : Lst w v L) (hb : Below w.heap.size w w') : Lst w' v L := by
  obtain ⟨A, c, rfl, S⟩ := h
  exact ⟨A, c, rfl, (S.below hb (Nat.le_refl _)).more hb.size⟩

theorem big_any (A : Option Addr) (n c : Nat) (w : World) (hn : n ≤ maxLen) : Calls Try.prog 9 #[.slice A n c] w fun e w' => e = .returned (.bool (decide (4096 < (n : Int)))) ∧ w = w' := by
  go_enter Try.func9, Try.ntmps9
  go_wp2
  go_ret
  exact ⟨rfl, rfl⟩

set_option maxRecDepth 100000 in
set_option maxHeartbeats 1000000 in
theorem likeInts_same (v v' : Value) (L : List Int) (w : World) (h : Lst w v L) (h' : Lst w v' L) (hn : L.length ≤ maxLen) :
    Calls Try.prog 21 #[v, v'] w fun e w' => e = .returned (.bool true) ∧ Below w.heap.size w w' := by
  obtain ⟨A, c, rfl, s⟩ := h
  obtain ⟨A', c', rfl, s'⟩ := h'
  generalize hL : L.length = n at *
  clear hL
  unfold maxLen at hn
  have S := Lib.hid s
  have S' := Lib.hid s'
  clear s s'
  go_enter Try.func21, Try.ntmps21
  go_wp2
  go_loopw [5] (fun i wr => ∃ k : Nat, k ≤ n ∧ i = .int .i64 k ∧ Below w.heap.size w wr) (fun i _ => n - (intOf i).toNat)
  case atStart => exact ⟨0, Nat.zero_le _, rfl, Below.refl _ _⟩
  case round =>
    obtain ⟨k, hk, rfl, K⟩ := hrel
    by_cases hlt : k < n
    · obtain ⟨b, off, rfl, hb, q0⟩ := ((S.out.below K (Nat.le_refl _)).more K.size).cell1 hlt
      obtain ⟨b', off', rfl, hb', r0⟩ := ((S'.out.below K (Nat.le_refl _)).more K.size).cell1 hlt
      go_wp2_with fail
      go_quiet (fail)
      go_wp2
      exact ⟨⟨k + 1, by omega, by go_num, below_drewN K _⟩, by simp [intOf]; omega⟩
    · obtain rfl : k = n := by omega
      go_wp2
      go_ret
      exact ⟨rfl, K⟩

theorem plan_of_owned {w : World} {B0 B1 B2 B3 : Nat} {v0 v1 v2 v3 : Value} {d : PlanD} (o0 : OI w B0 55 4 v0 d.n0 d.x0) (o1 : OI w B1 2 1 v1 d.n1 d.x1) (o2 : OI w B2 57 2 v2 d.n2 d.x2) (o3 : OI w B3 59 1 v3 d.n3 d.x3) :
    IsPlan w w.heap.size (.agg #[v0, v1, v2, v3, .int .i64 d.l, .int .i64 d.p, .int .i64 d.t]) d := by
  obtain ⟨A0, c0, rfl, s0, b0⟩ := o0.form
  obtain ⟨A1, c1, rfl, s1, b1⟩ := o1.form
  obtain ⟨A2, c2, rfl, s2, b2⟩ := o2.form
  obtain ⟨A3, c3, rfl, s3, b3⟩ := o3.form
  exact ⟨⟨_, _, _, _, _, _, _, _, rfl, s0, s1, s2, s3⟩, b0, b1, b2, b3⟩

/-- The four lists of a plan. -/
structure Lists (w : World) (B : Nat) (v0 v1 v2 v3 : Value) (d : PlanD) : Prop where
  o0 : OI w B 55 4 v0 d.n0 d.x0
  o1 : OI w B 2 1 v1 d.n1 d.x1
  o2 : OI w B 57 2 v2 d.n2 d.x2
  o3 : OI w B 59 1 v3 d.n3 d.x3
theorem Lists.below {w w' : World} {B : Nat} {v0 v1 v2 v3 : Value} {d : PlanD} (h : Lists w B v0 v1 v2 v3 d) (hb : Below w.heap.size w w') : Lists w' B v0 v1 v2 v3 d :=
  ⟨h.o0.below hb, h.o1.below hb, h.o2.below hb, h.o3.below hb⟩
theorem Lists.keeps {w w' : World} {B g T : Nat} {cs : Array Value} {v0 v1 v2 v3 : Value} {d : PlanD} (h : Lists w B v0 v1 v2 v3 d) (kk : Keeps (· = g) w w') (hg : w.heap[g]? = some (.cells cs T (0, 0)))
    (hT : T ≠ 55 ∧ T ≠ 2 ∧ T ≠ 57 ∧ T ≠ 59) : Lists w' B v0 v1 v2 v3 d :=
  ⟨h.o0.keeps kk hg hT.1, h.o1.keeps kk hg hT.2.1, h.o2.keeps kk hg hT.2.2.1, h.o3.keeps kk hg hT.2.2.2⟩
theorem Lists.base {w : World} {B B' : Nat} {v0 v1 v2 v3 : Value} {d : PlanD} (h : Lists w B v0 v1 v2 v3 d) (hb : B' ≤ B) : Lists w B' v0 v1 v2 v3 d := by
  obtain ⟨⟨a, ha, ha'⟩, ⟨b, hb1, hb2⟩, ⟨c, hc, hc'⟩, ⟨e, he, he'⟩⟩ := h
  exact ⟨⟨a, ownsRow_base ha hb, ha'⟩, ⟨b, ownsRow_base hb1 hb, hb2⟩, ⟨c, ownsRow_base hc hb, hc'⟩, ⟨e, ownsRow_base he hb, he'⟩⟩
theorem Lists.plan {w : World} {B : Nat} {v0 v1 v2 v3 : Value} {d : PlanD} (h : Lists w B v0 v1 v2 v3 d) : IsPlan w w.heap.size (.agg #[v0, v1, v2, v3, .int .i64 d.l, .int .i64 d.p, .int .i64 d.t]) d :=
  plan_of_owned h.o0 h.o1 h.o2 h.o3
theorem Bytes.more {w : World} {B B' n : Nat} {A : Option Addr} (h : Bytes w B A n) (hB : B ≤ B') : Bytes w B' A n := fun hn => by
  obtain ⟨b, off, e, hlt, hc⟩ := h hn
  exact ⟨b, off, e, by omega, hc⟩
/-- A plan and a number. -/
def AtPlan (w : World) (e : Ending) (w' : World) : Prop :=
  ∃ v0 v1 v2 v3 d k, e = .returned (.tuple #[.agg #[v0, v1, v2, v3, .int .i64 d.l, .int .i64 d.p, .int .i64 d.t], .int .i64 k]) ∧ Lists w' w.heap.size v0 v1 v2 v3 d ∧ d.n0 ≤ 13 ∧ d.n2 ≤ 5 ∧ Below w.heap.size w w'

set_option maxRecDepth 100000 in
set_option maxHeartbeats 1000000 in
theorem drawAt_of (HA : Hid (∀ (g : Nat) (w : World), Cur 103 .i64 w g → Calls Try.prog 65 #[.pointer (some ⟨g, 0, none⟩)] w (DrawnPlan 103 .i64 (fun d => d.n0 ≤ 13 ∧ d.n1 ≤ 4 ∧ d.n2 ≤ 5 ∧ d.n3 ≤ 3) g w)))
    (A : Option Addr) (n c : Nat) (w : World) (hB : Bytes w w.heap.size A n) (hn : n ≤ 4096) : Calls Try.prog 37 #[.slice A n c] w (AtPlan w) := by
  have HB := Lib.hid hB
  clear hB
  go_enter Try.func37, Try.ntmps37
  go_wp2_with fail
  have X1 := Own.box w (planC none none none none 0 0 0 0 0 0 0 0 0 0 0) 29
  have hR1 := heap_alloc_new w (.cells (planC none none none none 0 0 0 0 0 0 0 0 0 0 0) 29)
  refine (l1New_any A n c _ ((HB.out.below X1.K (Nat.le_refl _)).more X1.K.size) hn).mono ?_
  rintro e w2 ⟨g, rfl, hg, hc, hb⟩
  have X2 := X1.step hb
  have hR2 := (hb.block _ X1.z).trans hR1
  have hgw : w.heap.size < g := by rw [heap_size_alloc_] at hg; omega
  have h2 : w.heap.size ≤ w2.heap.size := X2.K.size
  clear hb X1 hg hR1
  go_wp2_with fail
  refine (HA.out g _ hc).mono ?_
  rintro e w3 ⟨v0, v1, v2, v3, d, rfl, o0, o1, o2, o3, hc3, hk, b0, b1, b2, b3⟩
  have X3 := X2.keeps hk (by rintro b rfl; omega) (by show ¬ w.heap.size = g; omega)
  have hR3 := (hk.block _ X2.z (by show ¬ w.heap.size = g; omega)).trans hR2
  have hlg := hc3.lt
  have L3 : Lists w3 w2.heap.size v0 v1 v2 v3 d := ⟨o0, o1, o2, o3⟩
  obtain ⟨V0, C0, rfl, -, -⟩ := o0.form
  obtain ⟨V1, C1, rfl, -, -⟩ := o1.form
  obtain ⟨V2, C2, rfl, -, -⟩ := o2.form
  obtain ⟨V3, C3, rfl, -, -⟩ := o3.form
  clear X2 hk hc o0 o1 o2 o3 hR2
  go_wp2_with fail
  have Y := Own.box2 X3.K (planC V0 V1 V2 V3 d.n0 C0 d.n1 C1 d.n2 C2 d.n3 C3 d.l d.p d.t) 29
  have hb4 : Below w3.heap.size w3 (w3.alloc (.cells (planC V0 V1 V2 V3 d.n0 C0 d.n1 C1 d.n2 C2 d.n3 C3 d.l d.p d.t) 29)) := (Below.refl _ _).alloc (Nat.le_refl _) _
  have X4 := X3.step hb4
  have hc4 := hc3.below hb4
  have L4 := Lib.hid (L3.below hb4)
  have hR4 := (hb4.block _ X3.z).trans hR3
  have hPR : w.heap.size < w3.heap.size := X3.z
  clear hb4 X3 hc3 L3 hR3
  generalize w3.alloc (.cells (planC V0 V1 V2 V3 d.n0 C0 d.n1 C1 d.n2 C2 d.n3 C3 d.l d.p d.t) 29) = w4 at Y X4 hc4 L4 hR4 ⊢
  have Yd := Y.step (Below.refl _ _).drew
  have Xd := X4.step (Below.refl _ _).drew
  have hcd := hc4.below (Below.refl _ _).drew
  have Ld := Lib.hid (L4.out.below (Below.refl _ _).drew)
  have HRd := Lib.hid (((Below.refl w4.heap.size w4).drew.block _ X4.z).trans hR4)
  have q0 := Yd.C
  have q1 := Xd.C
  have q2 := Xd.F
  clear Y X4 hc4 L4 hR4
  go_region_law (first
    | (have hq := hcd
       clear hq
       go_simp
       go_at_call 66
       refine (l1From_any g _ _ _ hcd (by omega) (by omega) (by omega) (by omega)).mono ?_
       rintro e w5 ⟨k, rfl, k0, k1, hc5, hk5⟩
       have Y5 := Yd.keeps hk5 (by rintro b rfl; omega) (by show ¬ w3.heap.size = g; omega)
       have X5 := Xd.keeps hk5 (by rintro b rfl; omega) (by show ¬ w.heap.size = g; omega)
       have r0 := Y5.C
       have r1 := X5.C
       have r2 := X5.F))
  all_goals
    obtain ⟨gs, hgh⟩ := hcd.head
    have L5 := Ld.out.keeps hk5 hgh (by decide)
    have HR5 := (hk5.block _ Xd.z (by show ¬ w.heap.size = g; omega)).trans HRd.out
    have KR := ((((((((Keeps.refl (· = w.heap.size) w5).set (p := ⟨w.heap.size, 0, none⟩) rfl (.slice V0 d.n0 C0)).set (p := ⟨w.heap.size, 1, none⟩) rfl (.slice V1 d.n1 C1)).set (p := ⟨w.heap.size, 2, none⟩) rfl (.slice V2 d.n2 C2)).set (p := ⟨w.heap.size, 3, none⟩) rfl (.slice V3 d.n3 C3)).set (p := ⟨w.heap.size, 4, none⟩) rfl (.int .i64 d.l)).set (p := ⟨w.heap.size, 5, none⟩) rfl (.int .i64 d.p)).set (p := ⟨w.heap.size, 6, none⟩) rfl (.int .i64 d.t))
    have L6 := Lib.hid ((L5.keeps KR HR5 (by decide)).base h2)
    have X6 := Lib.hid (X5.K.trans (KR.below X5.K.size (fun b hb e => by have e : b = w.heap.size := e; omega)))
    clear KR HR5 L5 hk5 Ld HRd
    go_wp2_with fail
    refine bodyPost_ret (v := .tuple #[.agg #[.slice V0 d.n0 C0, .slice V1 d.n1 C1, .slice V2 d.n2 C2, .slice V3 d.n3 C3, .int .i64 d.l, .int .i64 d.p, .int .i64 d.t], .int .i64 k]) ?_ rfl ⟨_, _, _, _, d, k, rfl, L6.out, b0, b2, X6.out⟩
    simp [results, Try.results37, go_sem, r1]

end Go.Proofs.Ytmbblhnagohlhaa
