/-
  The model's chapter 10.
-/
import Derived.Test.YtdkmhaghnfhajaaGreatMZ5
import Derived.Test.YtdkmhaghnfhajaaGreatMZ3
import Derived.Test.YtdkmhaghnfhajaaGreatMZxUo
import Derived.Test.YtdkmhaghnfhajaaGreatMZ6
import Derived.Test.YtdkmhaghnfhajaaGreatMZ2
import Derived.BigQuiet
import Derived.Deep.RegionHeld3
/- Wb -/
set_option linter.unusedVariables false
namespace Go.Proofs.YtdkmhaghnfhajaaGreat
open Go.RowKit

theorem ownsRow_keeps {S : Nat → Prop} {w w' : World} {B e k n : Nat} {v : Value} {xs : List Value} (h : w.ownsRow B e k v n xs) (kp : Keeps S w w') (hn : ∀ r, v.ownBlock = some r → ¬ S r) : w'.ownsRow B e k v n xs := by
  refine ⟨h.1, h.2.imp id ?_⟩
  rintro ⟨g, cap, cur, hv, hb', hh, rest⟩
  exact ⟨g, cap, cur, hv, hb', (kp.block g (Array.getElem?_eq_some_iff.1 hh).1 (hn g (by rw [hv]; rfl))).trans hh, rest⟩
theorem OwnSt.keeps {S : Nat → Prop} {w w' : World} {B : Nat} {v : Value} {s : StD} (h : OwnSt w B v s) (kp : Keeps S w w') (hn : ∀ g, rowsOf v g → ¬ S g) : OwnSt w' B v s := by
  obtain ⟨v0, v1, v2, v3, rfl, h0, h1, h2, h3⟩ := h.it
  exact ⟨v0, v1, v2, v3, rfl, ownsRow_keeps h0 kp fun r hr => hn r ⟨_, 6, v0, rfl, rfl, hr⟩, ownsRow_keeps h1 kp fun r hr => hn r ⟨_, 7, v1, rfl, rfl, hr⟩, ownsRow_keeps h2 kp fun r hr => hn r ⟨_, 8, v2, rfl, rfl, hr⟩, ownsRow_keeps h3 kp fun r hr => hn r ⟨_, 9, v3, rfl, rfl, hr⟩⟩

/-- A box of a state, the call's own. -/
def BoxS (w : World) (B g : Nat) (xs : List Value) : Prop := w.ownsRow B 38 12 (.slice (some ⟨g, 0, none⟩) 1 1) 1 xs
theorem BoxS.new {W : World} {B g : Nat} {cs : Array Value} (hg : W.heap.size = g) (hB : B ≤ W.heap.size) (hl : cs.size = 12) : BoxS (W.alloc (.cells cs 38)) B g cs.toList := by
  subst hg
  exact own_of_heap (cur := cs) (heap_alloc_new W _) (by simp) (by simp [hl]) hB (by unfold maxLen; decide)
theorem BoxS.at_ {w : World} {B g : Nat} {xs : List Value} (h : BoxS w B g xs) (o : Nat) (ho : o < 12) : w.cell? ⟨g, o, none⟩ = xs[o]? := World.ownsRow.cellAt h o (by omega)
theorem BoxS.C {w : World} {B g : Nat} {cs : Array Value} (h : BoxS w B g cs.toList) : ∀ o, w.cell? ⟨g, o, none⟩ = cs[o]? := by
  intro o
  obtain ⟨hl, ⟨hv, _⟩ | ⟨g', cap, cur, hv, hb, hh, hnc, hcm, hsz, ht⟩⟩ := id h
  · cases hv
  · injection hv with h1 h2 h3
    injection h1 with h1
    injection h1 with h1 _ _
    subst h1 h3
    by_cases ho : o < 12
    · rw [h.at_ o ho, Array.getElem?_toList]
    · rw [cell_of_row _ _ _ _ _ _ hh, Array.getElem?_eq_none (by omega), Array.getElem?_eq_none (by simpa using (by omega : cs.toList.length ≤ o))]
theorem BoxS.frozen {w : World} {B g : Nat} {xs : List Value} (h : BoxS w B g xs) (o : Nat) : w.frozen? ⟨g, o, none⟩ = false := World.ownsRow.frozenAt h o
theorem BoxS.lt {w : World} {B g : Nat} {xs : List Value} (h : BoxS w B g xs) : B ≤ g ∧ g < w.heap.size := World.ownsRow.lt h g rfl
theorem BoxS.go {w w' : World} {B g : Nat} {xs : List Value} (h : BoxS w B g xs) (hb : Below w.heap.size w w') : BoxS w' B g xs := ownsRow_below h hb
theorem BoxS.keeps {S : Nat → Prop} {w w' : World} {B g : Nat} {xs : List Value} (h : BoxS w B g xs) (kp : Keeps S w w') (hn : ¬ S g) : BoxS w' B g xs := ownsRow_keeps h kp fun r hr => by
  obtain rfl : g = r := by simpa [Value.ownBlock] using hr
  exact hn
theorem OwnSt.apart {w : World} {B B' g : Nat} {v : Value} {s : StD} {xs : List Value} (h : OwnSt w B v s) (hb : BoxS w B' g xs) : ¬ rowsOf v g := by
  obtain ⟨v0, v1, v2, v3, rfl, h0, h1, h2, h3⟩ := h.it
  rintro ⟨cs, i, u, hv, hc, hu⟩
  injection hv with hv
  subst hv
  match i, hc with
  | 0, hc => cases hc; cases hu
  | 1, hc => cases hc; cases hu
  | 2, hc => cases hc; cases hu
  | 3, hc => cases hc; cases hu
  | 4, hc => cases hc; cases hu
  | 5, hc => cases hc; cases hu
  | 6, hc => cases hc; exact absurd (row_type h0 hb hu rfl) (by decide)
  | 7, hc => cases hc; exact absurd (row_type h1 hb hu rfl) (by decide)
  | 8, hc => cases hc; exact absurd (row_type h2 hb hu rfl) (by decide)
  | 9, hc => cases hc; exact absurd (row_type h3 hb hu rfl) (by decide)
  | 10, hc => cases hc; cases hu
  | 11, hc => cases hc; cases hu
  | k + 12, hc => simp at hc
section
variable (W : World) (g : Nat) (y0 y1 y2 y3 y4 y5 y6 y7 y8 y9 ya yb : Value)
/-- The world with twelve cells of block g set. -/
abbrev put12 : World := (((((((((((W.setCell ⟨g, 0, none⟩ y0).setCell ⟨g, 1, none⟩ y1).setCell ⟨g, 2, none⟩ y2).setCell ⟨g, 3, none⟩ y3).setCell ⟨g, 4, none⟩ y4).setCell ⟨g, 5, none⟩ y5).setCell ⟨g, 6, none⟩ y6).setCell ⟨g, 7, none⟩ y7).setCell ⟨g, 8, none⟩ y8).setCell ⟨g, 9, none⟩ y9).setCell ⟨g, 10, none⟩ ya).setCell ⟨g, 11, none⟩ yb
theorem keeps_put12 : Keeps (· = g) W (put12 W g y0 y1 y2 y3 y4 y5 y6 y7 y8 y9 ya yb) := by
  unfold put12
  iterate 12 (refine Keeps.set (S := (· = g)) ?_ rfl _)
  exact Keeps.refl _ _
end
theorem BoxS.put {W : World} {B g : Nat} {x0 x1 x2 x3 x4 x5 x6 x7 x8 x9 xa xb : Value} (h : BoxS W B g [x0, x1, x2, x3, x4, x5, x6, x7, x8, x9, xa, xb]) (y0 y1 y2 y3 y4 y5 y6 y7 y8 y9 ya yb : Value) :
    BoxS (put12 W g y0 y1 y2 y3 y4 y5 y6 y7 y8 y9 ya yb) B g [y0, y1, y2, y3, y4, y5, y6, y7, y8, y9, ya, yb] := by
  have h0 := (World.ownsRow.stored h 0 y0).1
  have h1 := (World.ownsRow.stored h0 1 y1).1
  have h2 := (World.ownsRow.stored h1 2 y2).1
  have h3 := (World.ownsRow.stored h2 3 y3).1
  have h4 := (World.ownsRow.stored h3 4 y4).1
  have h5 := (World.ownsRow.stored h4 5 y5).1
  have h6 := (World.ownsRow.stored h5 6 y6).1
  have h7 := (World.ownsRow.stored h6 7 y7).1
  have h8 := (World.ownsRow.stored h7 8 y8).1
  have h9 := (World.ownsRow.stored h8 9 y9).1
  have ha := (World.ownsRow.stored h9 10 ya).1
  exact (World.ownsRow.stored ha 11 yb).1
end Go.Proofs.YtdkmhaghnfhajaaGreat
/- Wd -/
set_option linter.unusedVariables false
namespace Go.Proofs.YtdkmhaghnfhajaaGreat
open Go.RowKit

set_option maxHeartbeats 1000000 in
theorem podStep_any (gr ba grace hook st since clock : Int) (w : World) (h0 : 0 ≤ since ∧ since ≤ 1000000) (h1 : 0 ≤ clock ∧ clock ≤ 1000001) :
    Calls Tryz.prog 138 #[.agg #[.int .i64 gr, .int .i64 ba, .int .i64 grace, .int .i64 hook], .agg #[.int .i64 st, .int .i64 since], .int .i64 clock] w fun e w' =>
      e = .returned (.int .i64 (podStep hook grace (st, since) clock)) ∧ Below w.heap.size w w' := by
  have HH : Hid (podStep hook grace (st, since) clock = if st = 0 then (if 0 < hook then 1 else 2) else if st = 1 then (if hook ≤ clock - since then 2 else 1) else if st = 2 then (if grace ≤ clock - since then 3 else 2) else if st = 3 then 4 else st) := Lib.hid rfl
  generalize podStep hook grace (st, since) clock = ans at HH
  have K2 : Below w.heap.size w ((w.alloc (.cells #[.int .i64 gr, .int .i64 ba, .int .i64 grace, .int .i64 hook] 62)).alloc (.cells #[.int .i64 st, .int .i64 since] 67)) := ((Below.refl _ _).alloc (Nat.le_refl _) _).alloc (by simp) _
  by_cases e0 : st = 0
  · subst e0
    by_cases e1 : 0 < hook
    · go_enter Tryz.func138, Tryz.ntmps138
      go_wp2
      all_goals (go_ret; exact ⟨by rw [HH.out]; simp [*], K2⟩)
    · go_enter Tryz.func138, Tryz.ntmps138
      go_wp2
      all_goals (go_ret; exact ⟨by rw [HH.out]; simp [*], K2⟩)
  · by_cases e1 : st = 1
    · subst e1
      by_cases e2 : hook ≤ clock - since
      · go_enter Tryz.func138, Tryz.ntmps138
        go_wp2
        all_goals (go_ret; exact ⟨by rw [HH.out]; simp [*], K2⟩)
      · go_enter Tryz.func138, Tryz.ntmps138
        go_wp2
        all_goals (go_ret; exact ⟨by rw [HH.out]; simp [*], K2⟩)
    · by_cases e2 : st = 2
      · subst e2
        by_cases e3 : grace ≤ clock - since
        · go_enter Tryz.func138, Tryz.ntmps138
          go_wp2
          all_goals (go_ret; exact ⟨by rw [HH.out]; simp [*], K2⟩)
        · go_enter Tryz.func138, Tryz.ntmps138
          go_wp2
          all_goals (go_ret; exact ⟨by rw [HH.out]; simp [*], K2⟩)
      · by_cases e3 : st = 3
        · subst e3
          go_enter Tryz.func138, Tryz.ntmps138
          go_wp2
          all_goals (go_ret; exact ⟨by rw [HH.out]; simp [*], K2⟩)
        · go_enter Tryz.func138, Tryz.ntmps138
          go_wp2
          all_goals (go_ret; exact ⟨by rw [HH.out]; simp [*], K2⟩)

theorem afterHook_any (x : Int) (w : World) : Calls Tryz.prog 135 #[.int .i64 x] w fun e w' => e = .returned (.int .i64 (afterHook x)) ∧ w = w' := by
  unfold afterHook
  by_cases h : x = 1
  · subst h
    go_enter Tryz.func135, Tryz.ntmps135
    go_wp2
    all_goals (go_ret; exact ⟨rfl, rfl⟩)
  · rw [if_neg h]
    go_enter Tryz.func135, Tryz.ntmps135
    go_wp2
    all_goals (go_ret; exact ⟨rfl, rfl⟩)
set_option maxHeartbeats 1000000 in
theorem afterExit_any (x : Int) (w : World) : Calls Tryz.prog 136 #[.int .i64 x] w fun e w' => e = .returned (.int .i64 (afterExit x)) ∧ w = w' := by
  have HH : Hid (afterExit x = if x = 0 ∨ x = 1 then 5 else if x = 2 ∨ x = 3 then 4 else -1) := Lib.hid rfl
  by_cases h0 : x = 0
  · subst h0
    go_enter Tryz.func136, Tryz.ntmps136
    go_wp2
    all_goals (go_ret; exact ⟨by rw [HH.out]; rfl, rfl⟩)
  · by_cases h1 : x = 1
    · subst h1
      go_enter Tryz.func136, Tryz.ntmps136
      go_wp2
      all_goals (go_ret; exact ⟨by rw [HH.out]; rfl, rfl⟩)
    · by_cases h2 : x = 2
      · subst h2
        go_enter Tryz.func136, Tryz.ntmps136
        go_wp2
        all_goals (go_ret; exact ⟨by rw [HH.out]; rfl, rfl⟩)
      · by_cases h3 : x = 3
        · subst h3
          go_enter Tryz.func136, Tryz.ntmps136
          go_wp2
          all_goals (go_ret; exact ⟨by rw [HH.out]; rfl, rfl⟩)
        · go_enter Tryz.func136, Tryz.ntmps136
          go_wp2
          all_goals (go_ret; exact ⟨by rw [HH.out]; simp [h0, h1, h2, h3], rfl⟩)

/-- Records and a code: what is planned. -/
def RecsA (w : World) (a : List RecD × Int) (e : Ending) (w' : World) : Prop := ∃ v, e = .returned (.tuple #[v, .int .i64 a.2]) ∧ OR w' w.heap.size v a.1 ∧ Below w.heap.size w w'
theorem RecsA.back {w w1 w2 : World} {a : List RecD × Int} {e : Ending} (h : RecsA w1 a e w2) (K : Below w.heap.size w w1) : RecsA w a e w2 := by
  obtain ⟨v, he, ho, hb⟩ := h
  exact ⟨v, he, ho.base K.size, K.trans (hb.mono K.size)⟩
theorem OR.first {w : World} {B : Nat} (hB : B ≤ w.heap.size) (k a b : Int) : OR (w.alloc (.cells #[.int .i64 k, .int .i64 a, .int .i64 b] 60)) B (.slice (some ⟨w.heap.size, 0, none⟩) 1 1) [⟨k, a, b⟩] :=
  own_of_heap (heap_alloc_new w _) rfl rfl hB (by unfold maxLen; decide)
theorem l10No_any (c : Int) (w : World) : Calls Tryz.prog 67 #[.int .i64 c] w (RecsA w (noR c)) := by
  go_enter Tryz.func67, Tryz.ntmps67
  go_wp2
  go_ret2
  exact ⟨_, rfl, OR.empty (Nat.le_refl _), (Below.refl _ _).alloc (Nat.le_refl _) _⟩
theorem l10One_any (k a b : Int) (w : World) : Calls Tryz.prog 126 #[.int .i64 k, .int .i64 a, .int .i64 b] w (RecsA w (oneR k a b)) := by
  go_enter Tryz.func126, Tryz.ntmps126
  go_wp2
  go_ret2
  exact ⟨_, rfl, OR.first (Nat.le_refl _) k a b, (Below.refl _ _).alloc (Nat.le_refl _) _⟩
end Go.Proofs.YtdkmhaghnfhajaaGreat
/- We -/
set_option linter.unusedVariables false
namespace Go.Proofs.YtdkmhaghnfhajaaGreat
open Go.RowKit

def hP (d : PlanD) (s : StD) (g : Int) (i : Nat) : Bool := decide (d.x0 (i * 4) = g) && decide ((podA s.pods i).1 = 0)
theorem healthyN_count (d : PlanD) (s : StD) (g : Int) : healthyN d s g = ((List.range d.n0).countP (hP d s g) : Nat) := rfl
theorem count_next (p : Nat → Bool) (k : Nat) : (List.range (k + 1)).countP p = (List.range k).countP p + if p k then 1 else 0 := by
  rw [List.range_succ, List.countP_append]
  simp [List.countP_cons]
theorem count_le (p : Nat → Bool) (k : Nat) : (List.range k).countP p ≤ k := by
  have := List.countP_le_length (p := p) (l := List.range k)
  simpa using this
theorem mount_pod {d : PlanD} (h : planOkB d = true) {i : Nat} (hi : i < d.n2) : ∃ m : Nat, d.x2 (i * 2) = m ∧ m < d.n0 ∧ mpod d i = m := by
  have hf := mount_facts h hi
  simp only [planOkB, Bool.and_eq_true] at h
  obtain ⟨⟨-, hm⟩, -⟩ := h
  have := allB_true.1 hm i hi
  simp only [mountB, Bool.and_eq_true, inB_true] at this
  exact ⟨mpod d i, by unfold mpod; omega, hf.1, rfl⟩
theorem dev_mnt {d : PlanD} (h : planOkB d = true) {i : Nat} (hi : i < d.n3) : ∃ m : Nat, d.x3 i = m ∧ m < d.n2 ∧ dmnt d i = m := by
  simp only [planOkB, Bool.and_eq_true] at h
  obtain ⟨-, hm⟩ := h
  have := allB_true.1 hm i hi
  simp only [deviceB, inB_true] at this
  exact ⟨dmnt d i, by unfold dmnt; omega, by unfold dmnt; omega, rfl⟩
theorem pod_group {d : PlanD} (h : planOkB d = true) {i : Nat} (hi : i < d.n0) : ∃ m : Nat, d.x0 (i * 4) = m ∧ m < d.n1 := by
  simp only [planOkB, Bool.and_eq_true] at h
  obtain ⟨⟨⟨⟨-, hm⟩, -⟩, -⟩, -⟩ := h
  have := allB_true.1 hm i hi
  simp only [podB, Bool.and_eq_true, inB_true] at this
  exact ⟨(d.x0 (i * 4)).toNat, by omega, by omega⟩

set_option maxRecDepth 4000 in
set_option maxHeartbeats 4000000 in
theorem healthyIn_any (pv sv : Value) (d : PlanD) (s : StD) (g : Int) (w : World) (hp : IsPlan w w.heap.size pv d) (hs : IsSt w w.heap.size sv s) :
    Calls Tryz.prog 28 #[pv, sv, .int .i64 g] w fun e w' => e = .returned (.int .i64 (if stOkB d s && inB g 0 (d.n1 - 1) then healthyN d s g else -1)) ∧ Below w.heap.size w w' := by
  have HP := Lib.hid hp
  have HS := Lib.hid hs
  obtain ⟨⟨P0, P1, P2, P3, k0, k1, k2, k3, rfl, s0, s1, s2, s3⟩, b0, b1, b2, b3⟩ := hp
  obtain ⟨⟨A0, A1, A2, A3, c0, c1, c2, c3, rfl, t0, t1, t2, t3⟩, f0, f1, f2, f3⟩ := hs
  have S0 := Lib.hid s0
  have S1 := Lib.hid s1
  have S2 := Lib.hid s2
  have S3 := Lib.hid s3
  have R0 := Lib.hid t0
  have R1 := Lib.hid t1
  have R2 := Lib.hid t2
  have R3 := Lib.hid t3
  unfold maxLen at b0 b1 b2 b3 f0 f1 f2 f3
  clear s0 s1 s2 s3 t0 t1 t2 t3
  have T0 := Two.start w (planC P0 P1 P2 P3 d.n0 k0 d.n1 k1 d.n2 k2 d.n3 k3 d.l d.p d.t) (stC A0 A1 A2 A3 s.pods.length c0 s.mnts.length c1 s.devs.length c2 s.lks.length c3 s.ph s.co s.ck s.bo s.ba s.lb s.gd s.pr) 29 38
  obtain ⟨ans, hans⟩ : ∃ ans, (if stOkB d s && inB g 0 (d.n1 - 1) then healthyN d s g else -1) = ans := ⟨_, rfl⟩
  rw [hans]
  have HANS := Lib.hid hans
  clear hans
  go_enter Tryz.func28, Tryz.ntmps28
  go_wp2_with fail
  refine (specStateOk_any _ _ d s _ ((HP.out.below T0.A.K (Nat.le_refl _)).more T0.A.K.size) ((HS.out.below T0.A.K (Nat.le_refl _)).more T0.A.K.size)).mono ?_
  rintro e w1 ⟨rfl, hb⟩
  have T1 := T0.step hb
  have hC := T1.A.C
  clear hb T0
  cases hok : stOkB d s
  · have OKB := Lib.hid hok
    clear hok
    go_wp2
    all_goals (go_ret; exact ⟨ret_int (by rw [← HANS.out, OKB.out]; rfl), T1.A.K⟩)
  · have OK := Lib.hid (stOkB_iff.1 hok)
    have OKB := Lib.hid hok
    clear hok
    go_wp2_with fail
    refine (in_any _ _ _ _).mono ?_
    rintro e w2 ⟨rfl, rfl⟩
    cases hin : inB g 0 (d.n1 - 1)
    · have HIN := Lib.hid hin
      clear hin
      go_wp2
      all_goals (go_ret; exact ⟨ret_int (by rw [← HANS.out, OKB.out, HIN.out]; rfl), T1.A.K⟩)
    · have HIN := Lib.hid hin
      clear hin
      go_wp2_with fail
      go_loopw [7, 8] (fun n i wr => ∃ k : Nat, k ≤ d.n0 ∧ i = .int .i64 k ∧ n = .int .i64 ((List.range k).countP (hP d s g) : Nat) ∧ Two w wr (planC P0 P1 P2 P3 d.n0 k0 d.n1 k1 d.n2 k2 d.n3 k3 d.l d.p d.t) (stC A0 A1 A2 A3 s.pods.length c0 s.mnts.length c1 s.devs.length c2 s.lks.length c3 s.ph s.co s.ck s.bo s.ba s.lb s.gd s.pr)) (fun _ i _ => d.n0 - (intOf i).toNat)
      case atStart => exact ⟨0, Nat.zero_le _, rfl, rfl, T1⟩
      case round =>
        clear hC T1
        obtain ⟨k, hk, rfl, rfl, T⟩ := hrel
        have hC := T.A.C
        have hD := T.O.C
        by_cases hlt : k < d.n0
        · obtain ⟨b, off, rfl, hb, q0, -, -, -⟩ := (S0.out.own T.A).cell4 hlt
          have hlp : k < s.pods.length := by rw [OK.out.np]; exact hlt
          obtain ⟨b', off', rfl, hb', hc⟩ := (R0.out.below T.A.K (Nat.le_refl _)).cell hlp
          have p0 := (hc 0 (by decide)).trans (podCs_at s.pods (i := k) hlp).1
          rw [Nat.add_zero] at p0
          clear hc
          have hle := count_le (hP d s g) k
          have CN := Lib.hid (count_next (hP d s g) k)
          have CP : Hid (hP d s g k = (decide (d.x0 (k * 4) = g) && decide ((podA s.pods k).1 = 0))) := Lib.hid rfl
          generalize (List.range k).countP (hP d s g) = m at CN hle ⊢
          generalize hP d s g k = hp at CP CN
          generalize podA s.pods k = r at p0 CP
          obtain ⟨x, y⟩ := r
          dsimp only at p0 CP
          cases hv : (d.x0 (k * 4) == g)
          · have CF : Hid (hp = false) := Lib.hid (by rw [CP.out]; simp at hv; simp [hv])
            go_wp2
            refine ⟨⟨k + 1, by omega, by go_num, by rw [CN.out, CF.out]; rfl, T⟩, by simp [intOf]; omega⟩
          · by_cases hx : x = 0
            · have CF : Hid (hp = true) := Lib.hid (by rw [CP.out]; simp at hv; simp [hv, hx])
              subst hx
              go_wp2
              refine ⟨⟨k + 1, by omega, by go_num, by rw [CN.out, CF.out]; go_num, T⟩, by simp [intOf]; omega⟩
            · have CF : Hid (hp = false) := Lib.hid (by rw [CP.out]; simp [hx])
              go_wp2
              refine ⟨⟨k + 1, by omega, by go_num, by rw [CN.out, CF.out]; rfl, T⟩, by simp [intOf]; omega⟩
        · obtain rfl : k = d.n0 := by omega
          go_wp2
          all_goals (go_ret; exact ⟨ret_int (by rw [← HANS.out, OKB.out, HIN.out]; rfl), T.A.K⟩)

set_option maxRecDepth 4000 in
set_option maxHeartbeats 4000000 in
theorem l9Give_any (pv sv : Value) (d : PlanD) (s : StD) (i : Nat) (w : World) (hp : IsPlan w w.heap.size pv d) (hs : IsSt w w.heap.size sv s) (hok : StOk d s) (hi : i < d.n3) :
    Calls Tryz.prog 64 #[pv, sv, .int .i64 i] w fun e w' => e = .returned (.bool (giveB d s i)) ∧ Below w.heap.size w w' := by
  have HP := Lib.hid hp
  have HS := Lib.hid hs
  obtain ⟨⟨P0, P1, P2, P3, k0, k1, k2, k3, rfl, s0, s1, s2, s3⟩, b0, b1, b2, b3⟩ := hp
  obtain ⟨⟨A0, A1, A2, A3, c0, c1, c2, c3, rfl, t0, t1, t2, t3⟩, f0, f1, f2, f3⟩ := hs
  have S0 := Lib.hid s0
  have S1 := Lib.hid s1
  have S2 := Lib.hid s2
  have S3 := Lib.hid s3
  have R0 := Lib.hid t0
  have R1 := Lib.hid t1
  have R2 := Lib.hid t2
  have R3 := Lib.hid t3
  unfold maxLen at b0 b1 b2 b3 f0 f1 f2 f3
  clear s0 s1 s2 s3 t0 t1 t2 t3
  have T0 := Two.start w (planC P0 P1 P2 P3 d.n0 k0 d.n1 k1 d.n2 k2 d.n3 k3 d.l d.p d.t) (stC A0 A1 A2 A3 s.pods.length c0 s.mnts.length c1 s.devs.length c2 s.lks.length c3 s.ph s.co s.ck s.bo s.ba s.lb s.gd s.pr) 29 38
  have hD := T0.O.C
  have hC := T0.A.C
  have hld : i < s.devs.length := by rw [hok.nd]; exact hi
  obtain ⟨m, hm, hml, hmp⟩ := dev_mnt hok.plan hi
  have hlm : m < s.mnts.length := by rw [hok.nm]; exact hml
  obtain ⟨b, off, rfl, hb, q0⟩ := (S3.out.own T0.A).cell1 hi
  obtain ⟨b', off', rfl, hb', hc⟩ := (R2.out.below T0.A.K (Nat.le_refl _)).cell hld
  have p0 := (hc 0 (by decide)).trans (devCs_at s.devs (i := i * 1 + 0) (by omega))
  rw [Nat.add_zero, Nat.mul_one] at p0
  obtain ⟨b2_, off2, rfl, hb2, hc2⟩ := (R1.out.below T0.A.K (Nat.le_refl _)).cell hlm
  have r0 := (hc2 0 (by decide)).trans (mntCs_at s.mnts hlm).1
  rw [Nat.add_zero] at r0
  clear hc hc2
  rw [hm] at q0
  have GB : Hid (giveB d s i = (devA s.devs i && !(mntA s.mnts m).1)) := Lib.hid (by unfold giveB; rw [hmp]; rfl)
  generalize giveB d s i = ans at GB
  generalize devA s.devs i = x at p0 GB
  generalize (mntA s.mnts m).1 = y at r0 GB
  have KT := T0.A.K
  cases x
  · go_enter Tryz.func64, Tryz.ntmps64
    go_wp2_with fail
    go_quiet (fail)
    go_wp2
    all_goals (go_ret; exact ⟨ret_bool (by rw [GB.out]; rfl), (T0.A.drewN _).K⟩)
  · go_enter Tryz.func64, Tryz.ntmps64
    go_wp2_with fail
    go_quiet (fail)
    go_wp2
    all_goals (go_ret; exact ⟨ret_bool (by rw [GB.out]; simp), (T0.A.drewN _).K⟩)

end Go.Proofs.YtdkmhaghnfhajaaGreat
/- Wf -/
set_option linter.unusedVariables false
namespace Go.Proofs.YtdkmhaghnfhajaaGreat
open Go.RowKit

theorem Two.drewN {w w1 : World} {cs os : Array Value} (h : Two w w1 cs os) (n : Nat) : Two w (w1.drewN n) cs os := ⟨h.A.drewN n, h.O.drewN n⟩
theorem all_yes {n : Nat} {f : Nat → Bool} (h : ∀ j, j < n → f j = true) : (List.range n).all f = true := by simpa using h
theorem all_not {n k : Nat} {f : Nat → Bool} (hk : k < n) (h : f k = false) : (List.range n).all f = false := by
  rw [List.all_eq_false]
  exact ⟨k, by simpa using hk, by simp [h]⟩
def kidB (d : PlanD) (s : StD) (i j : Nat) : Bool := !(decide (mpar d j = i) && (mntA s.mnts j).1)

set_option maxRecDepth 4000 in
set_option maxHeartbeats 4000000 in
theorem l9Free_any (pv sv : Value) (d : PlanD) (s : StD) (i : Nat) (w : World) (hp : IsPlan w w.heap.size pv d) (hs : IsSt w w.heap.size sv s) (hok : StOk d s) (hi : i < d.n2) :
    Calls Tryz.prog 63 #[pv, sv, .int .i64 i] w fun e w' => e = .returned (.bool (freeB d s i)) ∧ Below w.heap.size w w' := by
  have HP := Lib.hid hp
  have HS := Lib.hid hs
  obtain ⟨⟨P0, P1, P2, P3, k0, k1, k2, k3, rfl, s0, s1, s2, s3⟩, b0, b1, b2, b3⟩ := hp
  obtain ⟨⟨A0, A1, A2, A3, c0, c1, c2, c3, rfl, t0, t1, t2, t3⟩, f0, f1, f2, f3⟩ := hs
  have S0 := Lib.hid s0
  have S1 := Lib.hid s1
  have S2 := Lib.hid s2
  have S3 := Lib.hid s3
  have R0 := Lib.hid t0
  have R1 := Lib.hid t1
  have R2 := Lib.hid t2
  have R3 := Lib.hid t3
  unfold maxLen at b0 b1 b2 b3 f0 f1 f2 f3
  clear s0 s1 s2 s3 t0 t1 t2 t3
  have T0 := Two.start w (planC P0 P1 P2 P3 d.n0 k0 d.n1 k1 d.n2 k2 d.n3 k3 d.l d.p d.t) (stC A0 A1 A2 A3 s.pods.length c0 s.mnts.length c1 s.devs.length c2 s.lks.length c3 s.ph s.co s.ck s.bo s.ba s.lb s.gd s.pr) 29 38
  have OK := Lib.hid hok
  have hD := T0.O.C
  have hC := T0.A.C
  have HLN := Lib.hid hok.nm
  obtain ⟨m, hm, hml, hmp⟩ := mount_pod hok.plan hi
  have hlm : m < s.pods.length := by rw [hok.np]; exact hml
  have S2' := S2
  have R1' := R1
  obtain ⟨b, off, hPe, hb, q0, -⟩ := (S2.out.own T0.A).cell2 hi
  obtain ⟨b', off', hAe, hb', hc⟩ := (R1.out.below T0.A.K (Nat.le_refl _)).cell (i := i) (by rw [HLN.out]; exact hi)
  have p0 := (hc 0 (by decide)).trans (mntCs_at s.mnts (i := i) (by rw [HLN.out]; exact hi)).1
  obtain ⟨b2_, off2, rfl, hb2, hc2⟩ := (R0.out.below T0.A.K (Nat.le_refl _)).cell hlm
  have r0 := (hc2 0 (by decide)).trans (podCs_at s.pods hlm).1
  rw [Nat.add_zero] at r0 p0
  subst hPe hAe
  clear hc hc2 hok
  rw [hm] at q0
  have GB : Hid (freeB d s i = ((mntA s.mnts i).1 && !aliveB (podA s.pods m).1 && (List.range d.n2).all (kidB d s i))) := Lib.hid (by unfold freeB; rw [hmp]; rfl)
  generalize freeB d s i = ans at GB
  have hlti : i < s.mnts.length := by rw [HLN.out]; exact hi
  generalize hX : (mntA s.mnts i).1 = x at p0 GB
  generalize (podA s.pods m).1 = y at r0 GB
  clear hX
  cases x
  · go_enter Tryz.func63, Tryz.ntmps63
    go_wp2_with fail
    go_quiet ((go_at_call 18; exact Calls.quiet_of_same ((alive_any _ _).mono fun e w' h => ⟨h.1, h.2.symm⟩)))
    go_wp2
    all_goals (go_ret; exact ⟨ret_bool (by rw [GB.out]; rfl), (T0.A.drewN _).K⟩)
  · cases ha : aliveB y
    · go_enter Tryz.func63, Tryz.ntmps63
      go_wp2_with fail
      go_quiet ((go_at_call 18; exact Calls.quiet_of_same ((alive_any _ _).mono fun e w' h => ⟨h.1, h.2.symm⟩)))
      have T1 := T0.drewN nq
      have HA := Lib.hid ha
      clear ha
      go_wp2_with fail
      go_loopw [7] (fun j wr => ∃ k : Nat, k ≤ d.n2 ∧ j = .int .i64 k ∧ (∀ j, j < k → kidB d s i j = true) ∧ Two w wr (planC P0 P1 (some ⟨b, off, none⟩) P3 d.n0 k0 d.n1 k1 d.n2 k2 d.n3 k3 d.l d.p d.t) (stC (some ⟨b2_, off2, none⟩) (some ⟨b', off', none⟩) A2 A3 s.pods.length c0 s.mnts.length c1 s.devs.length c2 s.lks.length c3 s.ph s.co s.ck s.bo s.ba s.lb s.gd s.pr)) (fun j _ => d.n2 - (intOf j).toNat)
      case atStart => exact ⟨0, Nat.zero_le _, rfl, fun j hj => absurd hj (by omega), T1⟩
      case round =>
        clear hC hD T1 p0 q0 r0
        obtain ⟨k, hk, rfl, hall, T⟩ := hrel
        have HALL := Lib.hid hall
        clear hall
        have hC := T.A.C
        have hD := T.O.C
        by_cases hlt : k < d.n2
        · have hlp : k < s.mnts.length := by rw [HLN.out]; exact hlt
          obtain ⟨b3_, off3, e3, hb3, -, q1⟩ := (S2'.out.own T.A).cell2 hlt
          injection e3 with e3
          injection e3 with e3 e4 _
          subst e3 e4
          obtain ⟨b4_, off4, e3, hb4, hc⟩ := (R1'.out.below T.A.K (Nat.le_refl _)).cell hlp
          injection e3 with e3
          injection e3 with e3 e4 _
          subst e3 e4
          have r0 := (hc 0 (by decide)).trans (mntCs_at s.mnts (i := k) hlp).1
          rw [Nat.add_zero] at r0
          clear hc
          have KB : Hid (kidB d s i k = !(decide (d.x2 (k * 2 + 1) = i) && (mntA s.mnts k).1)) := Lib.hid rfl
          have HFALSE : Hid (kidB d s i k = false → ans = false) := Lib.hid fun h => by rw [GB.out, all_not hlt h]; simp
          have HSTEP : Hid (kidB d s i k = true → ∀ j, j < k + 1 → kidB d s i j = true) := Lib.hid fun h => step_all HALL.out h
          generalize kidB d s i k = kb at KB HFALSE HSTEP
          generalize (mntA s.mnts k).1 = z at r0 KB
          cases hv : (d.x2 (k * 2 + 1) == (i : Int))
          · have CF : Hid (kb = true) := Lib.hid (by rw [KB.out]; simp at hv; simp [hv])
            go_wp2
            refine ⟨⟨k + 1, by omega, by go_num, HSTEP.out CF.out, T⟩, by simp [intOf]; omega⟩
          · cases z
            · have CF : Hid (kb = true) := Lib.hid (by rw [KB.out]; simp)
              go_wp2
              refine ⟨⟨k + 1, by omega, by go_num, HSTEP.out CF.out, T⟩, by simp [intOf]; omega⟩
            · have CF : Hid (kb = false) := Lib.hid (by rw [KB.out]; simp at hv; simp [hv])
              go_wp2
              all_goals (go_ret; exact ⟨ret_bool (by rw [HFALSE.out CF.out]), T.A.K⟩)
        · obtain rfl : k = d.n2 := by omega
          go_wp2
          all_goals (go_ret; exact ⟨ret_bool (by rw [GB.out, HA.out, all_yes HALL.out]; rfl), T.A.K⟩)
    · go_enter Tryz.func63, Tryz.ntmps63
      go_wp2_with fail
      go_quiet ((go_at_call 18; exact Calls.quiet_of_same ((alive_any _ _).mono fun e w' h => ⟨h.1, h.2.symm⟩)))
      have HA := Lib.hid ha
      go_wp2
      all_goals (go_ret; exact ⟨ret_bool (by rw [GB.out, HA.out]; rfl), (T0.A.drewN _).K⟩)

end Go.Proofs.YtdkmhaghnfhajaaGreat
/- Wg -/
set_option linter.unusedVariables false
namespace Go.Proofs.YtdkmhaghnfhajaaGreat
open Go.RowKit

theorem contains_at {l : List Int} {j : Nat} {a : Int} (hj : j < l.length) (h : lkA l j = a) : l.contains a = true := by
  subst h
  simp [lkA, List.getD, List.getElem?_eq_getElem hj]
theorem contains_no {l : List Int} {a : Int} (h : ∀ j, j < l.length → lkA l j ≠ a) : l.contains a = false := by
  rw [Bool.eq_false_iff]
  intro hc
  rw [List.contains_iff_mem, List.mem_iff_getElem] at hc
  obtain ⟨j, hj, e⟩ := hc
  exact h j hj (by simp [lkA, List.getD, List.getElem?_eq_getElem hj, e])
set_option maxRecDepth 4000 in
set_option maxHeartbeats 4000000 in
theorem mayEvict_any (pv sv : Value) (d : PlanD) (s : StD) (a : Int) (w : World) (hp : IsPlan w w.heap.size pv d) (hs : IsSt w w.heap.size sv s) :
    Calls Tryz.prog 23 #[pv, sv, .int .i64 a] w fun e w' => e = .returned (.bool (stOkB d s && mayEvictB d s a)) ∧ Below w.heap.size w w' := by
  have HP := Lib.hid hp
  have HS := Lib.hid hs
  obtain ⟨⟨P0, P1, P2, P3, k0, k1, k2, k3, rfl, s0, s1, s2, s3⟩, b0, b1, b2, b3⟩ := hp
  obtain ⟨⟨A0, A1, A2, A3, c0, c1, c2, c3, rfl, t0, t1, t2, t3⟩, f0, f1, f2, f3⟩ := hs
  have S0 := Lib.hid s0
  have S1 := Lib.hid s1
  have S2 := Lib.hid s2
  have S3 := Lib.hid s3
  have R0 := Lib.hid t0
  have R1 := Lib.hid t1
  have R2 := Lib.hid t2
  have R3 := Lib.hid t3
  unfold maxLen at b0 b1 b2 b3 f0 f1 f2 f3
  clear s0 s1 s2 s3 t0 t1 t2 t3
  have T0 := Two.start w (planC P0 P1 P2 P3 d.n0 k0 d.n1 k1 d.n2 k2 d.n3 k3 d.l d.p d.t) (stC A0 A1 A2 A3 s.pods.length c0 s.mnts.length c1 s.devs.length c2 s.lks.length c3 s.ph s.co s.ck s.bo s.ba s.lb s.gd s.pr) 29 38
  obtain ⟨ans, hans⟩ : ∃ ans, (stOkB d s && mayEvictB d s a) = ans := ⟨_, rfl⟩
  rw [hans]
  have HANS := Lib.hid hans
  clear hans
  go_enter Tryz.func23, Tryz.ntmps23
  go_wp2_with fail
  refine (specStateOk_any _ _ d s _ ((HP.out.below T0.A.K (Nat.le_refl _)).more T0.A.K.size) ((HS.out.below T0.A.K (Nat.le_refl _)).more T0.A.K.size)).mono ?_
  rintro e w1 ⟨rfl, hb⟩
  have T1 := T0.step hb
  have hC := T1.A.C
  have hD := T1.O.C
  clear hb T0
  cases hok : stOkB d s
  · have OKB := Lib.hid hok
    clear hok
    go_wp2
    all_goals (go_ret; exact ⟨ret_bool (by rw [← HANS.out, OKB.out]; rfl), T1.A.K⟩)
  · have OK := Lib.hid (stOkB_iff.1 hok)
    have OKB := Lib.hid hok
    clear hok
    cases hph : (s.ph != 2)
    case true =>
      have HPH : Hid (¬ s.ph = 2) := Lib.hid (by simpa using hph)
      go_wp2
      all_goals (go_ret; exact ⟨ret_bool (by rw [← HANS.out, OKB.out]; simp [mayEvictB, HPH.out]), T1.A.K⟩)
    case false =>
      have HPH : Hid (s.ph = 2) := Lib.hid (by simpa using hph)
      go_wp2_with fail
      refine (in_any _ _ _ _).mono ?_
      rintro e w2 ⟨rfl, rfl⟩
      cases hin : inB a 0 (d.n0 - 1)
      · have HIN := Lib.hid hin
        clear hin
        go_wp2
        all_goals (go_ret; exact ⟨ret_bool (by rw [← HANS.out, OKB.out]; simp [mayEvictB, HIN.out]), T1.A.K⟩)
      · have HIN := Lib.hid hin
        obtain ⟨i, rfl, hi⟩ := index_nat (a := a) (n := d.n0) (by rw [hin]; decide)
        clear hin
        have hlp : i < s.pods.length := by rw [OK.out.np]; exact hi
        obtain ⟨b', off', rfl, hb', hc⟩ := (R0.out.below T1.A.K (Nat.le_refl _)).cell hlp
        have p0 := (hc 0 (by decide)).trans (podCs_at s.pods (i := i) hlp).1
        rw [Nat.add_zero] at p0
        clear hc
        obtain ⟨m, hm, hml⟩ := pod_group OK.out.plan hi
        have HANS2 : Hid (ans = (decide ((podA s.pods i).1 = 0) && decide (d.x1 m < healthyN d s m))) := Lib.hid (by
          rw [← HANS.out, OKB.out, mayEvictB, HIN.out, HPH.out, Int.toNat_natCast, hm, Int.toNat_natCast]
          simp [podAt, podA])
        generalize (podA s.pods i).1 = x at p0 HANS2
        by_cases hx : x = 0
        · subst hx
          obtain ⟨b, off, rfl, hb, q0, -, -, -⟩ := (S0.out.own T1.A).cell4 hi
          obtain ⟨b1_, off1, rfl, hb1, r0⟩ := (S1.out.below T1.A.K (Nat.le_refl _)).cell1 hml
          rw [hm] at q0
          have HG : Hid ((if stOkB d s && inB (m : Int) 0 (d.n1 - 1) then healthyN d s m else -1) = healthyN d s m) := Lib.hid (by
            rw [OKB.out, show inB (m : Int) 0 (d.n1 - 1) = true from by rw [inB_true]; omega]; rfl)
          clear hm HPH
          go_wp2_with fail
          have hlt1 : b1_ < w1.heap.size := Nat.lt_of_lt_of_le hb1 T1.A.K.size
          have Q0 : (∀ o, w1.cell? ⟨w.heap.size, o, none⟩ = (planC (some ⟨b, off, none⟩) (some ⟨b1_, off1, none⟩) P2 P3 d.n0 k0 d.n1 k1 d.n2 k2 d.n3 k3 d.l d.p d.t)[o]?) ∧ (∀ o, w1.cell? ⟨w.heap.size + 1, o, none⟩ = (stC (some ⟨b', off', none⟩) A1 A2 A3 s.pods.length c0 s.mnts.length c1 s.devs.length c2 s.lks.length c3 s.ph s.co s.ck s.bo s.ba s.lb s.gd s.pr)[o]?) ∧ w1.cell? ⟨b1_, off1 + m, none⟩ = some (.int .i64 (d.x1 m)) ∧ Below w1.heap.size w1 w1 := ⟨T1.A.C, T1.O.C, r0, Below.refl _ _⟩
          go_region_held3 (fun w' => (∀ o, w'.cell? ⟨w.heap.size, o, none⟩ = (planC (some ⟨b, off, none⟩) (some ⟨b1_, off1, none⟩) P2 P3 d.n0 k0 d.n1 k1 d.n2 k2 d.n3 k3 d.l d.p d.t)[o]?) ∧ (∀ o, w'.cell? ⟨w.heap.size + 1, o, none⟩ = (stC (some ⟨b', off', none⟩) A1 A2 A3 s.pods.length c0 s.mnts.length c1 s.devs.length c2 s.lks.length c3 s.ph s.co s.ck s.bo s.ba s.lb s.gd s.pr)[o]?) ∧ w'.cell? ⟨b1_, off1 + m, none⟩ = some (.int .i64 (d.x1 m)) ∧ Below w1.heap.size w1 w')
            (first | exact Q2 | exact Q0 | exact ⟨Q0.1, Q0.2.1, Q0.2.2.1, Q0.2.2.2.drew⟩)
            (first
              | (go_at_call 28
                 have K0 : Below w1.heap.size w1 w1.drew := (Below.refl _ _).drew
                 refine (healthyIn_any _ _ d s _ _ ((HP.out.below (T1.step K0).A.K (Nat.le_refl _)).more (T1.step K0).A.K.size) ((HS.out.below (T1.step K0).A.K (Nat.le_refl _)).more (T1.step K0).A.K.size)).mono ?_
                 rw [HG.out]
                 rintro e w3 ⟨rfl, hb3⟩
                 have K1 : Below w1.heap.size w1 w3 := K0.trans hb3
                 have Q2 := And.intro (T1.step K1).A.C (And.intro (T1.step K1).O.C (And.intro ((K1.cell (p := ⟨b1_, off1 + m, none⟩) hlt1).trans r0) K1))))
          have T3 := T1.step K1
          go_wp2
          all_goals (go_ret; exact ⟨ret_bool (by rw [HANS2.out]; simp), T3.A.K⟩)
        · go_wp2
          all_goals (go_ret; exact ⟨ret_bool (by rw [HANS2.out]; simp [hx]), T1.A.K⟩)

set_option maxHeartbeats 1000000 in
theorem l10Phase_any (sv : Value) (s : StD) (f t : Int) (w : World) (hs : IsSt w w.heap.size sv s) :
    Calls Tryz.prog 123 #[sv, .int .i64 f, .int .i64 t] w (RecsA w (phaseD s f t)) := by
  obtain ⟨⟨A0, A1, A2, A3, c0, c1, c2, c3, rfl, -, -, -, -⟩, -, -, -, -⟩ := hs
  obtain ⟨ans, hans⟩ : ∃ ans, phaseD s f t = ans := ⟨_, rfl⟩
  rw [hans]
  have HANS := Lib.hid hans
  clear hans
  have X := Own.box w (stC A0 A1 A2 A3 s.pods.length c0 s.mnts.length c1 s.devs.length c2 s.lks.length c3 s.ph s.co s.ck s.bo s.ba s.lb s.gd s.pr) 38
  cases hph : (s.ph != f)
  · have HPH : Hid (s.ph = f) := Lib.hid (by simpa using hph)
    go_enter Tryz.func123, Tryz.ntmps123
    go_wp2_with fail
    refine (l10One_any 1 t 0 _).mono ?_
    rintro e w9 hR
    obtain ⟨v9, rfl, O9, K9⟩ := hR.back X.K
    go_wp2
    all_goals (go_ret2; rw [← HANS.out, phaseD, if_pos HPH.out]; exact ⟨v9, rfl, O9, K9⟩)
  · have HPH : Hid (¬ s.ph = f) := Lib.hid (by simpa using hph)
    go_enter Tryz.func123, Tryz.ntmps123
    go_wp2_with fail
    refine (l10No_any 3 _).mono ?_
    rintro e w9 hR
    obtain ⟨v9, rfl, O9, K9⟩ := hR.back X.K
    go_wp2
    all_goals (go_ret2; rw [← HANS.out, phaseD, if_neg HPH.out]; exact ⟨v9, rfl, O9, K9⟩)

set_option maxHeartbeats 1000000 in
theorem l10Holds_any (sv : Value) (s : StD) (a : Int) (w : World) (hs : IsSt w w.heap.size sv s) :
    Calls Tryz.prog 134 #[sv, .int .i64 a] w fun e w' => e = .returned (.bool (s.lks.contains a)) ∧ Below w.heap.size w w' := by
  obtain ⟨⟨A0, A1, A2, A3, c0, c1, c2, c3, rfl, -, -, -, t3⟩, -, -, -, f3⟩ := hs
  have R3 := Lib.hid t3
  unfold maxLen at f3
  clear t3
  obtain ⟨ans, hans⟩ : ∃ ans, s.lks.contains a = ans := ⟨_, rfl⟩
  rw [hans]
  have HANS := Lib.hid hans
  clear hans
  have X0 := Own.box w (stC A0 A1 A2 A3 s.pods.length c0 s.mnts.length c1 s.devs.length c2 s.lks.length c3 s.ph s.co s.ck s.bo s.ba s.lb s.gd s.pr) 38
  go_enter Tryz.func134, Tryz.ntmps134
  go_wp2_with fail
  go_loopw [5] (fun j wr => ∃ k : Nat, k ≤ s.lks.length ∧ j = .int .i64 k ∧ (∀ j, j < k → lkA s.lks j ≠ a) ∧ Own w wr w.heap.size (stC A0 A1 A2 A3 s.pods.length c0 s.mnts.length c1 s.devs.length c2 s.lks.length c3 s.ph s.co s.ck s.bo s.ba s.lb s.gd s.pr)) (fun j _ => s.lks.length - (intOf j).toNat)
  case atStart => exact ⟨0, Nat.zero_le _, rfl, fun j hj => absurd hj (by omega), X0⟩
  case round =>
    clear X0
    obtain ⟨k, hk, rfl, hall, X⟩ := hrel
    have HALL := Lib.hid hall
    clear hall
    have hC := X.C
    by_cases hlt : k < s.lks.length
    · obtain ⟨b', off', rfl, hb', hc⟩ := (R3.out.below X.K (Nat.le_refl _)).cell hlt
      have p0 := (hc 0 (by decide)).trans (lkCs_at s.lks (i := k * 1 + 0) (by omega))
      rw [Nat.add_zero, Nat.mul_one] at p0
      clear hc
      have HYES : Hid (lkA s.lks k = a → ans = true) := Lib.hid fun h => by rw [← HANS.out]; exact contains_at hlt h
      have HNO : Hid (lkA s.lks k ≠ a → ∀ j, j < k + 1 → lkA s.lks j ≠ a) := Lib.hid fun h j hj => by
        by_cases e : j = k
        · rw [e]; exact h
        · exact HALL.out j (by omega)
      generalize lkA s.lks k = x at p0 HYES HNO
      cases hx : (x == a)
      · have HX : Hid (x ≠ a) := Lib.hid (by simpa using hx)
        go_wp2
        refine ⟨⟨k + 1, by omega, by go_num, HNO.out HX.out, X⟩, by simp [intOf]; omega⟩
      · have HX : Hid (x = a) := Lib.hid (by simpa using hx)
        go_wp2
        all_goals (go_ret; exact ⟨ret_bool (HYES.out HX.out).symm, X.K⟩)
    · obtain rfl : k = s.lks.length := by omega
      go_wp2
      all_goals (go_ret; exact ⟨ret_bool (by rw [← HANS.out, contains_no HALL.out]), X.K⟩)

end Go.Proofs.YtdkmhaghnfhajaaGreat
/- Wh -/
set_option linter.unusedVariables false
namespace Go.Proofs.YtdkmhaghnfhajaaGreat
open Go.RowKit

theorem at_index {i : Nat} {n : Nat} (hi : i < n) : inB (i : Int) 0 (n - 1) = true := by rw [inB_true]; omega
set_option maxRecDepth 4000 in
set_option maxHeartbeats 4000000 in
theorem l10Lock_any (sv : Value) (s : StD) (a : Int) (w : World) (hs : IsSt w w.heap.size sv s) :
    Calls Tryz.prog 127 #[sv, .int .i64 6, .int .i64 a] w (RecsA w (lockD s a)) := by
  have HS := Lib.hid hs
  obtain ⟨⟨A0, A1, A2, A3, c0, c1, c2, c3, rfl, -, -, -, -⟩, -, -, -, -⟩ := hs
  obtain ⟨ans, hans⟩ : ∃ ans, lockD s a = ans := ⟨_, rfl⟩
  rw [hans]
  have HANS := Lib.hid hans
  clear hans
  have X := Own.box w (stC A0 A1 A2 A3 s.pods.length c0 s.mnts.length c1 s.devs.length c2 s.lks.length c3 s.ph s.co s.ck s.bo s.ba s.lb s.gd s.pr) 38
  have hC := X.C
  go_enter Tryz.func127, Tryz.ntmps127
  go_wp2_with fail
  refine (in_any _ _ _ _).mono ?_
  rintro e w1 ⟨rfl, rfl⟩
  cases h1 : inB a 0 7
  · have H1 := Lib.hid h1
    clear h1
    go_wp2_with fail
    refine (l10No_any 2 _).mono ?_
    rintro e w9 hR
    obtain ⟨v9, rfl, O9, K9⟩ := hR.back X.K
    go_wp2
    all_goals (go_ret2; rw [← HANS.out, lockD, if_pos H1.out]; exact ⟨v9, rfl, O9, K9⟩)
  · have H1 : Hid (¬ inB a 0 7 = false) := Lib.hid (by rw [h1]; decide)
    clear h1
    by_cases h2 : 3 ≤ s.ph
    · have H2 := Lib.hid h2
      go_wp2_with fail
      refine (l10No_any 3 _).mono ?_
      rintro e w9 hR
      obtain ⟨v9, rfl, O9, K9⟩ := hR.back X.K
      go_wp2
      all_goals (go_ret2; rw [← HANS.out, lockD, if_neg H1.out, if_pos H2.out]; exact ⟨v9, rfl, O9, K9⟩)
    · have H2 := Lib.hid h2
      go_wp2_with fail
      refine (l10Holds_any _ s a _ ((HS.out.below X.K (Nat.le_refl _)).more X.K.size)).mono ?_
      rintro e w2 ⟨rfl, hb⟩
      have X2 := X.step hb
      clear hb
      cases h3 : s.lks.contains a
      · have H3 : Hid (¬ s.lks.contains a = true) := Lib.hid (by rw [h3]; decide)
        clear h3
        go_wp2_with fail
        refine (l10One_any 6 a 0 _).mono ?_
        rintro e w9 hR
        obtain ⟨v9, rfl, O9, K9⟩ := hR.back X2.K
        go_wp2
        all_goals (go_ret2; rw [← HANS.out, lockD, if_neg H1.out, if_neg (by have := H2.out; omega), if_neg H3.out]; exact ⟨v9, rfl, O9, K9⟩)
      · have H3 := Lib.hid h3
        clear h3
        go_wp2_with fail
        refine (l10No_any 4 _).mono ?_
        rintro e w9 hR
        obtain ⟨v9, rfl, O9, K9⟩ := hR.back X2.K
        go_wp2
        all_goals (go_ret2; rw [← HANS.out, lockD, if_neg H1.out, if_neg (by have := H2.out; omega), if_pos H3.out]; exact ⟨v9, rfl, O9, K9⟩)

set_option maxRecDepth 4000 in
set_option maxHeartbeats 4000000 in
theorem l10Unlock_any (sv : Value) (s : StD) (a : Int) (w : World) (hs : IsSt w w.heap.size sv s) :
    Calls Tryz.prog 127 #[sv, .int .i64 7, .int .i64 a] w (RecsA w (unlockD s a)) := by
  have HS := Lib.hid hs
  obtain ⟨⟨A0, A1, A2, A3, c0, c1, c2, c3, rfl, -, -, -, -⟩, -, -, -, -⟩ := hs
  obtain ⟨ans, hans⟩ : ∃ ans, unlockD s a = ans := ⟨_, rfl⟩
  rw [hans]
  have HANS := Lib.hid hans
  clear hans
  have X := Own.box w (stC A0 A1 A2 A3 s.pods.length c0 s.mnts.length c1 s.devs.length c2 s.lks.length c3 s.ph s.co s.ck s.bo s.ba s.lb s.gd s.pr) 38
  have hC := X.C
  go_enter Tryz.func127, Tryz.ntmps127
  go_wp2_with fail
  refine (in_any _ _ _ _).mono ?_
  rintro e w1 ⟨rfl, rfl⟩
  cases h1 : inB a 0 7
  · have H1 := Lib.hid h1
    clear h1
    go_wp2_with fail
    refine (l10No_any 2 _).mono ?_
    rintro e w9 hR
    obtain ⟨v9, rfl, O9, K9⟩ := hR.back X.K
    go_wp2
    all_goals (go_ret2; rw [← HANS.out, unlockD, if_pos H1.out]; exact ⟨v9, rfl, O9, K9⟩)
  · have H1 : Hid (¬ inB a 0 7 = false) := Lib.hid (by rw [h1]; decide)
    clear h1
    go_wp2_with fail
    refine (l10Holds_any _ s a _ ((HS.out.below X.K (Nat.le_refl _)).more X.K.size)).mono ?_
    rintro e w2 ⟨rfl, hb⟩
    have X2 := X.step hb
    clear hb
    cases h3 : s.lks.contains a
    · have H3 := Lib.hid h3
      clear h3
      go_wp2_with fail
      refine (l10No_any 4 _).mono ?_
      rintro e w9 hR
      obtain ⟨v9, rfl, O9, K9⟩ := hR.back X2.K
      go_wp2
      all_goals (go_ret2; rw [← HANS.out, unlockD, if_neg H1.out, if_pos H3.out]; exact ⟨v9, rfl, O9, K9⟩)
    · have H3 : Hid (¬ s.lks.contains a = false) := Lib.hid (by rw [h3]; decide)
      clear h3
      go_wp2_with fail
      refine (l10One_any 7 a 0 _).mono ?_
      rintro e w9 hR
      obtain ⟨v9, rfl, O9, K9⟩ := hR.back X2.K
      go_wp2
      all_goals (go_ret2; rw [← HANS.out, unlockD, if_neg H1.out, if_neg H3.out]; exact ⟨v9, rfl, O9, K9⟩)

set_option maxRecDepth 4000 in
set_option maxHeartbeats 4000000 in
theorem l10Hook_any (pv sv : Value) (d : PlanD) (s : StD) (a : Int) (w : World) (hp : IsPlan w w.heap.size pv d) (hs : IsSt w w.heap.size sv s) (hok : StOk d s) :
    Calls Tryz.prog 128 #[pv, sv, .int .i64 8, .int .i64 a] w (RecsA w (toldD d s afterHook a)) := by
  have HP := Lib.hid hp
  have HS := Lib.hid hs
  obtain ⟨⟨P0, P1, P2, P3, k0, k1, k2, k3, rfl, s0, s1, s2, s3⟩, b0, b1, b2, b3⟩ := hp
  obtain ⟨⟨A0, A1, A2, A3, c0, c1, c2, c3, rfl, t0, t1, t2, t3⟩, f0, f1, f2, f3⟩ := hs
  have S0 := Lib.hid s0
  have S1 := Lib.hid s1
  have S2 := Lib.hid s2
  have S3 := Lib.hid s3
  have R0 := Lib.hid t0
  have R1 := Lib.hid t1
  have R2 := Lib.hid t2
  have R3 := Lib.hid t3
  unfold maxLen at b0 b1 b2 b3 f0 f1 f2 f3
  clear s0 s1 s2 s3 t0 t1 t2 t3
  have T0 := Two.start w (planC P0 P1 P2 P3 d.n0 k0 d.n1 k1 d.n2 k2 d.n3 k3 d.l d.p d.t) (stC A0 A1 A2 A3 s.pods.length c0 s.mnts.length c1 s.devs.length c2 s.lks.length c3 s.ph s.co s.ck s.bo s.ba s.lb s.gd s.pr) 29 38
  have OK := Lib.hid hok
  clear hok
  obtain ⟨ans, hans⟩ : ∃ ans, toldD d s afterHook a = ans := ⟨_, rfl⟩
  rw [hans]
  have HANS := Lib.hid hans
  clear hans
  have hC := T0.A.C
  have hD := T0.O.C
  go_enter Tryz.func128, Tryz.ntmps128
  go_wp2_with fail
  refine (in_any _ _ _ _).mono ?_
  rintro e w1 ⟨rfl, rfl⟩
  cases h1 : inB a 0 (d.n0 - 1)
  · have H1 := Lib.hid h1
    clear h1
    go_wp2_with fail
    refine (l10No_any 2 _).mono ?_
    rintro e w9 hR
    obtain ⟨v9, rfl, O9, K9⟩ := hR.back T0.A.K
    go_wp2
    all_goals (go_ret2; rw [← HANS.out, toldD, if_pos H1.out]; exact ⟨v9, rfl, O9, K9⟩)
  · obtain ⟨i, rfl, hi⟩ := index_nat (a := a) (n := d.n0) (by rw [h1]; decide)
    clear h1
    have H1 : Hid (¬ inB (i : Int) 0 (d.n0 - 1) = false) := Lib.hid (by rw [at_index hi]; decide)
    have hlp : i < s.pods.length := by rw [OK.out.np]; exact hi
    obtain ⟨b', off', rfl, hb', hc⟩ := (R0.out.below T0.A.K (Nat.le_refl _)).cell hlp
    have p0 := (hc 0 (by decide)).trans (podCs_at s.pods (i := i) hlp).1
    rw [Nat.add_zero] at p0
    clear hc
    have HX : Hid ((podAt s (i : Int).toNat).1 = (podA s.pods i).1) := Lib.hid (by rw [Int.toNat_natCast]; rfl)
    generalize (podA s.pods i).1 = x at p0 HX
    go_wp2_with fail
    refine (afterHook_any _ _).mono ?_
    rintro e w2 ⟨rfl, rfl⟩
    by_cases h2 : afterHook x < 0
    · have H2 : Hid (afterHook (podAt s (i : Int).toNat).1 < 0) := Lib.hid (by rw [HX.out]; exact h2)
      go_wp2_with fail
      refine (l10No_any 4 _).mono ?_
      rintro e w9 hR
      obtain ⟨v9, rfl, O9, K9⟩ := hR.back T0.A.K
      go_wp2
      all_goals (go_ret2; rw [← HANS.out, toldD, if_neg H1.out, if_pos H2.out]; exact ⟨v9, rfl, O9, K9⟩)
    · have H2 : Hid (¬ afterHook (podAt s (i : Int).toNat).1 < 0) := Lib.hid (by rw [HX.out]; exact h2)
      go_wp2_with fail
      refine (l10One_any 2 i (afterHook x) _).mono ?_
      rintro e w9 hR
      obtain ⟨v9, rfl, O9, K9⟩ := hR.back T0.A.K
      go_wp2
      all_goals (go_ret2; rw [← HANS.out, toldD, if_neg H1.out, if_neg (by have := H2.out; omega), HX.out]; exact ⟨v9, rfl, O9, K9⟩)

set_option maxRecDepth 4000 in
set_option maxHeartbeats 4000000 in
theorem l10Exit_any (pv sv : Value) (d : PlanD) (s : StD) (a : Int) (w : World) (hp : IsPlan w w.heap.size pv d) (hs : IsSt w w.heap.size sv s) (hok : StOk d s) :
    Calls Tryz.prog 128 #[pv, sv, .int .i64 9, .int .i64 a] w (RecsA w (toldD d s afterExit a)) := by
  have HP := Lib.hid hp
  have HS := Lib.hid hs
  obtain ⟨⟨P0, P1, P2, P3, k0, k1, k2, k3, rfl, s0, s1, s2, s3⟩, b0, b1, b2, b3⟩ := hp
  obtain ⟨⟨A0, A1, A2, A3, c0, c1, c2, c3, rfl, t0, t1, t2, t3⟩, f0, f1, f2, f3⟩ := hs
  have S0 := Lib.hid s0
  have S1 := Lib.hid s1
  have S2 := Lib.hid s2
  have S3 := Lib.hid s3
  have R0 := Lib.hid t0
  have R1 := Lib.hid t1
  have R2 := Lib.hid t2
  have R3 := Lib.hid t3
  unfold maxLen at b0 b1 b2 b3 f0 f1 f2 f3
  clear s0 s1 s2 s3 t0 t1 t2 t3
  have T0 := Two.start w (planC P0 P1 P2 P3 d.n0 k0 d.n1 k1 d.n2 k2 d.n3 k3 d.l d.p d.t) (stC A0 A1 A2 A3 s.pods.length c0 s.mnts.length c1 s.devs.length c2 s.lks.length c3 s.ph s.co s.ck s.bo s.ba s.lb s.gd s.pr) 29 38
  have OK := Lib.hid hok
  clear hok
  obtain ⟨ans, hans⟩ : ∃ ans, toldD d s afterExit a = ans := ⟨_, rfl⟩
  rw [hans]
  have HANS := Lib.hid hans
  clear hans
  have hC := T0.A.C
  have hD := T0.O.C
  go_enter Tryz.func128, Tryz.ntmps128
  go_wp2_with fail
  refine (in_any _ _ _ _).mono ?_
  rintro e w1 ⟨rfl, rfl⟩
  cases h1 : inB a 0 (d.n0 - 1)
  · have H1 := Lib.hid h1
    clear h1
    go_wp2_with fail
    refine (l10No_any 2 _).mono ?_
    rintro e w9 hR
    obtain ⟨v9, rfl, O9, K9⟩ := hR.back T0.A.K
    go_wp2
    all_goals (go_ret2; rw [← HANS.out, toldD, if_pos H1.out]; exact ⟨v9, rfl, O9, K9⟩)
  · obtain ⟨i, rfl, hi⟩ := index_nat (a := a) (n := d.n0) (by rw [h1]; decide)
    clear h1
    have H1 : Hid (¬ inB (i : Int) 0 (d.n0 - 1) = false) := Lib.hid (by rw [at_index hi]; decide)
    have hlp : i < s.pods.length := by rw [OK.out.np]; exact hi
    obtain ⟨b', off', rfl, hb', hc⟩ := (R0.out.below T0.A.K (Nat.le_refl _)).cell hlp
    have p0 := (hc 0 (by decide)).trans (podCs_at s.pods (i := i) hlp).1
    rw [Nat.add_zero] at p0
    clear hc
    have HX : Hid ((podAt s (i : Int).toNat).1 = (podA s.pods i).1) := Lib.hid (by rw [Int.toNat_natCast]; rfl)
    generalize (podA s.pods i).1 = x at p0 HX
    go_wp2_with fail
    refine (afterHook_any _ _).mono ?_
    rintro e w2 ⟨rfl, rfl⟩
    go_wp2_with fail
    refine (afterExit_any _ _).mono ?_
    rintro e w3 ⟨rfl, rfl⟩
    by_cases h2 : afterExit x < 0
    · have H2 : Hid (afterExit (podAt s (i : Int).toNat).1 < 0) := Lib.hid (by rw [HX.out]; exact h2)
      go_wp2_with fail
      refine (l10No_any 4 _).mono ?_
      rintro e w9 hR
      obtain ⟨v9, rfl, O9, K9⟩ := hR.back T0.A.K
      go_wp2
      all_goals (go_ret2; rw [← HANS.out, toldD, if_neg H1.out, if_pos H2.out]; exact ⟨v9, rfl, O9, K9⟩)
    · have H2 : Hid (¬ afterExit (podAt s (i : Int).toNat).1 < 0) := Lib.hid (by rw [HX.out]; exact h2)
      go_wp2_with fail
      refine (l10One_any 2 i (afterExit x) _).mono ?_
      rintro e w9 hR
      obtain ⟨v9, rfl, O9, K9⟩ := hR.back T0.A.K
      go_wp2
      all_goals (go_ret2; rw [← HANS.out, toldD, if_neg H1.out, if_neg (by have := H2.out; omega), HX.out]; exact ⟨v9, rfl, O9, K9⟩)

set_option maxRecDepth 4000 in
set_option maxHeartbeats 4000000 in
theorem l10Busy_any (pv sv : Value) (d : PlanD) (s : StD) (a b : Int) (w : World) (hp : IsPlan w w.heap.size pv d) (hs : IsSt w w.heap.size sv s) (hok : StOk d s) :
    Calls Tryz.prog 129 #[pv, sv, .int .i64 a, .int .i64 b] w (RecsA w (busyD d s a b)) := by
  have HP := Lib.hid hp
  have HS := Lib.hid hs
  obtain ⟨⟨P0, P1, P2, P3, k0, k1, k2, k3, rfl, s0, s1, s2, s3⟩, b0, b1, b2, b3⟩ := hp
  obtain ⟨⟨A0, A1, A2, A3, c0, c1, c2, c3, rfl, t0, t1, t2, t3⟩, f0, f1, f2, f3⟩ := hs
  have S0 := Lib.hid s0
  have S1 := Lib.hid s1
  have S2 := Lib.hid s2
  have S3 := Lib.hid s3
  have R0 := Lib.hid t0
  have R1 := Lib.hid t1
  have R2 := Lib.hid t2
  have R3 := Lib.hid t3
  unfold maxLen at b0 b1 b2 b3 f0 f1 f2 f3
  clear s0 s1 s2 s3 t0 t1 t2 t3
  have T0 := Two.start w (planC P0 P1 P2 P3 d.n0 k0 d.n1 k1 d.n2 k2 d.n3 k3 d.l d.p d.t) (stC A0 A1 A2 A3 s.pods.length c0 s.mnts.length c1 s.devs.length c2 s.lks.length c3 s.ph s.co s.ck s.bo s.ba s.lb s.gd s.pr) 29 38
  have OK := Lib.hid hok
  clear hok
  obtain ⟨ans, hans⟩ : ∃ ans, busyD d s a b = ans := ⟨_, rfl⟩
  rw [hans]
  have HANS := Lib.hid hans
  clear hans
  have hC := T0.A.C
  have hD := T0.O.C
  go_enter Tryz.func129, Tryz.ntmps129
  go_wp2_with fail
  refine (in_any _ _ _ _).mono ?_
  rintro e w1 ⟨rfl, rfl⟩
  cases h1 : inB a 0 (d.n2 - 1)
  · have H1 := Lib.hid h1
    clear h1
    go_wp2_with fail
    refine (l10No_any 2 _).mono ?_
    rintro e w9 hR
    obtain ⟨v9, rfl, O9, K9⟩ := hR.back T0.A.K
    go_wp2
    all_goals (go_ret2; rw [← HANS.out, busyD, if_pos H1.out]; exact ⟨v9, rfl, O9, K9⟩)
  · obtain ⟨i, rfl, hi⟩ := index_nat (a := a) (n := d.n2) (by rw [h1]; decide)
    clear h1
    have H1 : Hid (¬ inB (i : Int) 0 (d.n2 - 1) = false) := Lib.hid (by rw [at_index hi]; decide)
    go_wp2_with fail
    refine (in_any _ _ _ _).mono ?_
    rintro e w1 ⟨rfl, rfl⟩
    cases h2 : inB b 1 5
    · have H2 := Lib.hid h2
      clear h2
      go_wp2_with fail
      refine (l10No_any 1 _).mono ?_
      rintro e w9 hR
      obtain ⟨v9, rfl, O9, K9⟩ := hR.back T0.A.K
      go_wp2
      all_goals (go_ret2; rw [← HANS.out, busyD, if_neg H1.out, if_pos H2.out]; exact ⟨v9, rfl, O9, K9⟩)
    · have H2 : Hid (¬ inB b 1 5 = false) := Lib.hid (by rw [h2]; decide)
      clear h2
      by_cases h3 : 4 ≤ s.ph
      · have H3 := Lib.hid h3
        go_wp2_with fail
        refine (l10No_any 3 _).mono ?_
        rintro e w9 hR
        obtain ⟨v9, rfl, O9, K9⟩ := hR.back T0.A.K
        go_wp2
        all_goals (go_ret2; rw [← HANS.out, busyD, if_neg H1.out, if_neg H2.out, if_pos H3.out]; exact ⟨v9, rfl, O9, K9⟩)
      · have H3 := Lib.hid h3
        have hlp : i < s.mnts.length := by rw [OK.out.nm]; exact hi
        obtain ⟨b', off', rfl, hb', hc⟩ := (R1.out.below T0.A.K (Nat.le_refl _)).cell hlp
        have p0 := (hc 0 (by decide)).trans (mntCs_at s.mnts (i := i) hlp).1
        have p1 := (hc 1 (by decide)).trans (mntCs_at s.mnts (i := i) hlp).2
        rw [Nat.add_zero] at p0
        clear hc
        have HX : Hid (mntAt s (i : Int).toNat = mntA s.mnts i) := Lib.hid (by rw [Int.toNat_natCast]; rfl)
        generalize mntA s.mnts i = q at p0 p1 HX
        obtain ⟨x, y⟩ := q
        dsimp only at p0 p1
        cases x
        · have H4 : Hid ((mntAt s (i : Int).toNat).1 = false ∨ (mntAt s (i : Int).toNat).2 ≠ 0) := Lib.hid (by rw [HX.out]; exact .inl rfl)
          go_wp2_with fail
          refine (l10No_any 4 _).mono ?_
          rintro e w9 hR
          obtain ⟨v9, rfl, O9, K9⟩ := hR.back T0.A.K
          go_wp2
          all_goals (go_ret2; rw [← HANS.out, busyD, if_neg H1.out, if_neg H2.out, if_neg (by have := H3.out; omega), if_pos H4.out]; exact ⟨v9, rfl, O9, K9⟩)
        · by_cases hy : y = 0
          · subst hy
            have H4 : Hid (¬ ((mntAt s (i : Int).toNat).1 = false ∨ (mntAt s (i : Int).toNat).2 ≠ 0)) := Lib.hid (by rw [HX.out]; simp)
            go_wp2_with fail
            refine (l10One_any 3 i b _).mono ?_
            rintro e w9 hR
            obtain ⟨v9, rfl, O9, K9⟩ := hR.back T0.A.K
            go_wp2
            all_goals (go_ret2; rw [← HANS.out, busyD, if_neg H1.out, if_neg H2.out, if_neg (by have := H3.out; omega), if_neg H4.out]; exact ⟨v9, rfl, O9, K9⟩)
          · have H4 : Hid ((mntAt s (i : Int).toNat).1 = false ∨ (mntAt s (i : Int).toNat).2 ≠ 0) := Lib.hid (by rw [HX.out]; exact .inr hy)
            go_wp2_with fail
            refine (l10No_any 4 _).mono ?_
            rintro e w9 hR
            obtain ⟨v9, rfl, O9, K9⟩ := hR.back T0.A.K
            go_wp2
            all_goals (go_ret2; rw [← HANS.out, busyD, if_neg H1.out, if_neg H2.out, if_neg (by have := H3.out; omega), if_pos H4.out]; exact ⟨v9, rfl, O9, K9⟩)

set_option maxRecDepth 4000 in
set_option maxHeartbeats 4000000 in
theorem l10Evict_any (pv sv : Value) (d : PlanD) (s : StD) (a : Int) (w : World) (hp : IsPlan w w.heap.size pv d) (hs : IsSt w w.heap.size sv s) (hok : StOk d s) :
    Calls Tryz.prog 124 #[pv, sv, .int .i64 a] w (RecsA w (evictD d s a)) := by
  have HP := Lib.hid hp
  have HS := Lib.hid hs
  obtain ⟨⟨P0, P1, P2, P3, k0, k1, k2, k3, rfl, s0, s1, s2, s3⟩, b0, b1, b2, b3⟩ := hp
  obtain ⟨⟨A0, A1, A2, A3, c0, c1, c2, c3, rfl, t0, t1, t2, t3⟩, f0, f1, f2, f3⟩ := hs
  have S0 := Lib.hid s0
  have S1 := Lib.hid s1
  have S2 := Lib.hid s2
  have S3 := Lib.hid s3
  have R0 := Lib.hid t0
  have R1 := Lib.hid t1
  have R2 := Lib.hid t2
  have R3 := Lib.hid t3
  unfold maxLen at b0 b1 b2 b3 f0 f1 f2 f3
  clear s0 s1 s2 s3 t0 t1 t2 t3
  have T0 := Two.start w (planC P0 P1 P2 P3 d.n0 k0 d.n1 k1 d.n2 k2 d.n3 k3 d.l d.p d.t) (stC A0 A1 A2 A3 s.pods.length c0 s.mnts.length c1 s.devs.length c2 s.lks.length c3 s.ph s.co s.ck s.bo s.ba s.lb s.gd s.pr) 29 38
  have OK := Lib.hid hok
  clear hok
  obtain ⟨ans, hans⟩ : ∃ ans, evictD d s a = ans := ⟨_, rfl⟩
  rw [hans]
  have HANS := Lib.hid hans
  clear hans
  have hC := T0.A.C
  have hD := T0.O.C
  go_enter Tryz.func124, Tryz.ntmps124
  go_wp2_with fail
  refine (in_any _ _ _ _).mono ?_
  rintro e w1 ⟨rfl, rfl⟩
  cases h1 : inB a 0 (d.n0 - 1)
  · have H1 := Lib.hid h1
    clear h1
    go_wp2_with fail
    refine (l10No_any 2 _).mono ?_
    rintro e w9 hR
    obtain ⟨v9, rfl, O9, K9⟩ := hR.back T0.A.K
    go_wp2
    all_goals (go_ret2; rw [← HANS.out, evictD, if_pos H1.out]; exact ⟨v9, rfl, O9, K9⟩)
  · obtain ⟨i, rfl, hi⟩ := index_nat (a := a) (n := d.n0) (by rw [h1]; decide)
    clear h1
    have H1 : Hid (¬ inB (i : Int) 0 (d.n0 - 1) = false) := Lib.hid (by rw [at_index hi]; decide)
    cases h2 : (s.ph != 2)
    case true =>
      have H2 : Hid (s.ph ≠ 2) := Lib.hid (by simpa using h2)
      go_wp2_with fail
      refine (l10No_any 3 _).mono ?_
      rintro e w9 hR
      obtain ⟨v9, rfl, O9, K9⟩ := hR.back T0.A.K
      go_wp2
      all_goals (go_ret2; rw [← HANS.out, evictD, if_neg H1.out, if_pos H2.out]; exact ⟨v9, rfl, O9, K9⟩)
    case false =>
      have H2 : Hid (¬ s.ph ≠ 2) := Lib.hid (by simpa using h2)
      have hlp : i < s.pods.length := by rw [OK.out.np]; exact hi
      obtain ⟨b', off', rfl, hb', hc⟩ := (R0.out.below T0.A.K (Nat.le_refl _)).cell hlp
      have p0 := (hc 0 (by decide)).trans (podCs_at s.pods (i := i) hlp).1
      rw [Nat.add_zero] at p0
      clear hc
      have HX : Hid ((podAt s (i : Int).toNat).1 = (podA s.pods i).1) := Lib.hid (by rw [Int.toNat_natCast]; rfl)
      generalize (podA s.pods i).1 = x at p0 HX
      by_cases hx : x = 0
      · subst hx
        have H3 : Hid (¬ (podAt s (i : Int).toNat).1 ≠ 0) := Lib.hid (by rw [HX.out]; simp)
        go_wp2_with fail
        refine (mayEvict_any _ _ d s _ _ ((HP.out.below T0.A.K (Nat.le_refl _)).more T0.A.K.size) ((HS.out.below T0.A.K (Nat.le_refl _)).more T0.A.K.size)).mono ?_
        have HM : Hid ((stOkB d s && mayEvictB d s i) = mayEvictB d s i) := Lib.hid (by rw [stOkB_iff.2 OK.out, Bool.true_and])
        rw [HM.out]
        rintro e w2 ⟨rfl, hb⟩
        have X2 := T0.A.step hb
        clear hb
        cases h4 : mayEvictB d s i
        · have H4 := Lib.hid h4
          clear h4
          go_wp2_with fail
          refine (l10No_any 5 _).mono ?_
          rintro e w9 hR
          obtain ⟨v9, rfl, O9, K9⟩ := hR.back X2.K
          go_wp2
          all_goals (go_ret2; rw [← HANS.out, evictD, if_neg H1.out, if_neg H2.out, if_neg H3.out, if_pos H4.out]; exact ⟨v9, rfl, O9, K9⟩)
        · have H4 : Hid (¬ mayEvictB d s i = false) := Lib.hid (by rw [h4]; decide)
          clear h4
          go_wp2_with fail
          refine (l10One_any 2 i 6 _).mono ?_
          rintro e w9 hR
          obtain ⟨v9, rfl, O9, K9⟩ := hR.back X2.K
          go_wp2
          all_goals (go_ret2; rw [← HANS.out, evictD, if_neg H1.out, if_neg H2.out, if_neg H3.out, if_neg H4.out]; exact ⟨v9, rfl, O9, K9⟩)
      · have H3 : Hid ((podAt s (i : Int).toNat).1 ≠ 0) := Lib.hid (by rw [HX.out]; exact hx)
        go_wp2_with fail
        refine (l10No_any 4 _).mono ?_
        rintro e w9 hR
        obtain ⟨v9, rfl, O9, K9⟩ := hR.back T0.A.K
        go_wp2
        all_goals (go_ret2; rw [← HANS.out, evictD, if_neg H1.out, if_neg H2.out, if_pos H3.out]; exact ⟨v9, rfl, O9, K9⟩)

end Go.Proofs.YtdkmhaghnfhajaaGreat
