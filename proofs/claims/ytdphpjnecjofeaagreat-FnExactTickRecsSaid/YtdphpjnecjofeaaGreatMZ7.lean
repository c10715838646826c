/-
  The model's chapter 10.
-/
import Derived.Test.YtdphpjnecjofeaaGreatMZ5
import Derived.Test.YtdphpjnecjofeaaGreatMZ3
import Derived.Test.YtdphpjnecjofeaaGreatMZxUo
import Derived.Test.YtdphpjnecjofeaaGreatMZ6
import Derived.Test.YtdphpjnecjofeaaGreatMZ2
import Derived.BigQuiet
import Derived.Deep.RegionHeld3
/- Wb -/
set_option linter.unusedVariables false
namespace Go.Proofs.YtdphpjnecjofeaaGreat
open Go.RowKit

theorem ownsRow_keeps {S : Nat → Prop} {w w' : World} {B e k n : Nat} {v : Value} {xs : List Value} (h : w.ownsRow B e k v n xs) (kp : Keeps S w w') (hn : ∀ r, v.ownBlock = some r → ¬ S r) : w'.ownsRow B e k v n xs := by
  refine ⟨h.1, h.2.imp id ?_⟩
  rintro ⟨g, cap, cur, hv, hb', hh, rest⟩
  exact ⟨g, cap, cur, hv, hb', (kp.block g (Array.getElem?_eq_some_iff.1 hh).1 (hn g (by rw [hv]; rfl))).trans hh, rest⟩
theorem OwnSt.keeps {S : Nat → Prop} {w w' : World} {B : Nat} {v : Value} {s : StD} (h : OwnSt w B v s) (kp : Keeps S w w') (hn : ∀ g, rowsOf v g → ¬ S g) : OwnSt w' B v s := by
  obtain ⟨v0, v1, v2, v3, rfl, h0, h1, h2, h3⟩ := h.it
  exact ⟨v0, v1, v2, v3, rfl, ownsRow_keeps h0 kp fun r hr => hn r ⟨_, 6, v0, rfl, rfl, hr⟩, ownsRow_keeps h1 kp fun r hr => hn r ⟨_, 7, v1, rfl, rfl, hr⟩, ownsRow_keeps h2 kp fun r hr => hn r ⟨_, 8, v2, rfl, rfl, hr⟩, ownsRow_keeps h3 kp fun r hr => hn r ⟨_, 9, v3, rfl, rfl, hr⟩⟩

/-- A box of a state, the call's own. -/
def BoxS (w : World) (B g : Nat) (xs : List Value) : Prop := w.ownsRow B 47 12 (.slice (some ⟨g, 0, none⟩) 1 1) 1 xs
theorem BoxS.new {W : World} {B g : Nat} {cs : Array Value} (hg : W.heap.size = g) (hB : B ≤ W.heap.size) (hl : cs.size = 12) : BoxS (W.alloc (.cells cs 47)) B g cs.toList := by
  subst hg
  exact own_of_heap (cur := cs) (heap_alloc_new W _) (by simp) (by simp [hl]) hB (by unfold maxLen; decide)
theorem BoxS.at_ {w : World} {B g : Nat} {xs : List Value} (h : BoxS w B g xs) (o : Nat) (ho : o < 12) : w.cell? ⟨g, o, none⟩ = xs[o]? := World.ownsRow.cellAt h o (by omega)
theorem BoxS.C {w : World} {B g : Nat} {cs : Array Value} (h : BoxS w B g cs.toList) : ∀ o, w.cell? ⟨g, o, none⟩ = cs[o]? := by
  intro o
  obtain ⟨hl, ⟨hv, _⟩ | ⟨g', cap, cur, hv, hb, hh, hnc, hcm, hsz, ht⟩⟩ := id h
  · cases hv
  · injection hv with h1 h2 h3
    injection h1 with h1
    injection h1 with h1 _ _
    subst h1 h3
    by_cases ho : o < 12
    · rw [h.at_ o ho, Array.getElem?_toList]
    · rw [cell_of_row _ _ _ _ _ _ hh, Array.getElem?_eq_none (by omega), Array.getElem?_eq_none (by simpa using (by omega : cs.toList.length ≤ o))]
theorem BoxS.frozen {w : World} {B g : Nat} {xs : List Value} (h : BoxS w B g xs) (o : Nat) : w.frozen? ⟨g, o, none⟩ = false := World.ownsRow.frozenAt h o
theorem BoxS.lt {w : World} {B g : Nat} {xs : List Value} (h : BoxS w B g xs) : B ≤ g ∧ g < w.heap.size := World.ownsRow.lt h g rfl
theorem BoxS.go {w w' : World} {B g : Nat} {xs : List Value} (h : BoxS w B g xs) (hb : Below w.heap.size w w') : BoxS w' B g xs := ownsRow_below h hb
theorem BoxS.keeps {S : Nat → Prop} {w w' : World} {B g : Nat} {xs : List Value} (h : BoxS w B g xs) (kp : Keeps S w w') (hn : ¬ S g) : BoxS w' B g xs := ownsRow_keeps h kp fun r hr => by
  obtain rfl : g = r := by simpa [Value.ownBlock] using hr
  exact hn
theorem OwnSt.apart {w : World} {B B' g : Nat} {v : Value} {s : StD} {xs : List Value} (h : OwnSt w B v s) (hb : BoxS w B' g xs) : ¬ rowsOf v g := by
  obtain ⟨v0, v1, v2, v3, rfl, h0, h1, h2, h3⟩ := h.it
  rintro ⟨cs, i, u, hv, hc, hu⟩
  injection hv with hv
  subst hv
  match i, hc with
  | 0, hc => cases hc; cases hu
  | 1, hc => cases hc; cases hu
  | 2, hc => cases hc; cases hu
  | 3, hc => cases hc; cases hu
  | 4, hc => cases hc; cases hu
  | 5, hc => cases hc; cases hu
  | 6, hc => cases hc; exact absurd (row_type h0 hb hu rfl) (by decide)
  | 7, hc => cases hc; exact absurd (row_type h1 hb hu rfl) (by decide)
  | 8, hc => cases hc; exact absurd (row_type h2 hb hu rfl) (by decide)
  | 9, hc => cases hc; exact absurd (row_type h3 hb hu rfl) (by decide)
  | 10, hc => cases hc; cases hu
  | 11, hc => cases hc; cases hu
  | k + 12, hc => simp at hc
section
variable (W : World) (g : Nat) (y0 y1 y2 y3 y4 y5 y6 y7 y8 y9 ya yb : Value)
/-- The world with twelve cells of block g set. -/
abbrev put12 : World := (((((((((((W.setCell ⟨g, 0, none⟩ y0).setCell ⟨g, 1, none⟩ y1).setCell ⟨g, 2, none⟩ y2).setCell ⟨g, 3, none⟩ y3).setCell ⟨g, 4, none⟩ y4).setCell ⟨g, 5, none⟩ y5).setCell ⟨g, 6, none⟩ y6).setCell ⟨g, 7, none⟩ y7).setCell ⟨g, 8, none⟩ y8).setCell ⟨g, 9, none⟩ y9).setCell ⟨g, 10, none⟩ ya).setCell ⟨g, 11, none⟩ yb
end
theorem BoxS.put {W : World} {B g : Nat} {x0 x1 x2 x3 x4 x5 x6 x7 x8 x9 xa xb : Value} (h : BoxS W B g [x0, x1, x2, x3, x4, x5, x6, x7, x8, x9, xa, xb]) (y0 y1 y2 y3 y4 y5 y6 y7 y8 y9 ya yb : Value) :
    BoxS (put12 W g y0 y1 y2 y3 y4 y5 y6 y7 y8 y9 ya yb) B g [y0, y1, y2, y3, y4, y5, y6, y7, y8, y9, ya, yb] := by
  have h0 := (World.ownsRow.stored h 0 y0).1
  have h1 := (World.ownsRow.stored h0 1 y1).1
  have h2 := (World.ownsRow.stored h1 2 y2).1
  have h3 := (World.ownsRow.stored h2 3 y3).1
  have h4 := (World.ownsRow.stored h3 4 y4).1
  have h5 := (World.ownsRow.stored h4 5 y5).1
  have h6 := (World.ownsRow.stored h5 6 y6).1
  have h7 := (World.ownsRow.stored h6 7 y7).1
  have h8 := (World.ownsRow.stored h7 8 y8).1
  have h9 := (World.ownsRow.stored h8 9 y9).1
  have ha := (World.ownsRow.stored h9 10 ya).1
  exact (World.ownsRow.stored ha 11 yb).1
end Go.Proofs.YtdphpjnecjofeaaGreat
/- Wd -/
set_option linter.unusedVariables false
namespace Go.Proofs.YtdphpjnecjofeaaGreat
open Go.RowKit

set_option maxHeartbeats 1000000 in
theorem podStep_any (gr ba grace hook st since clock : Int) (w : World) (h0 : 0 ≤ since ∧ since ≤ 1000000) (h1 : 0 ≤ clock ∧ clock ≤ 1000001) :
    Calls Tryz.prog 84 #[.agg #[.int .i64 gr, .int .i64 ba, .int .i64 grace, .int .i64 hook], .agg #[.int .i64 st, .int .i64 since], .int .i64 clock] w fun e w' =>
      e = .returned (.int .i64 (podStep hook grace (st, since) clock)) ∧ Below w.heap.size w w' := by
  have HH : Hid (podStep hook grace (st, since) clock = if st = 0 then (if 0 < hook then 1 else 2) else if st = 1 then (if hook ≤ clock - since then 2 else 1) else if st = 2 then (if grace ≤ clock - since then 3 else 2) else if st = 3 then 4 else st) := Lib.hid rfl
  generalize podStep hook grace (st, since) clock = ans at HH
  have K2 : Below w.heap.size w ((w.alloc (.cells #[.int .i64 gr, .int .i64 ba, .int .i64 grace, .int .i64 hook] 97)).alloc (.cells #[.int .i64 st, .int .i64 since] 109)) := ((Below.refl _ _).alloc (Nat.le_refl _) _).alloc (by simp) _
  by_cases e0 : st = 0
  · subst e0
    by_cases e1 : 0 < hook
    · go_enter Tryz.func84, Tryz.ntmps84
      go_wp2
      all_goals (go_ret; exact ⟨by rw [HH.out]; simp [*], K2⟩)
    · go_enter Tryz.func84, Tryz.ntmps84
      go_wp2
      all_goals (go_ret; exact ⟨by rw [HH.out]; simp [*], K2⟩)
  · by_cases e1 : st = 1
    · subst e1
      by_cases e2 : hook ≤ clock - since
      · go_enter Tryz.func84, Tryz.ntmps84
        go_wp2
        all_goals (go_ret; exact ⟨by rw [HH.out]; simp [*], K2⟩)
      · go_enter Tryz.func84, Tryz.ntmps84
        go_wp2
        all_goals (go_ret; exact ⟨by rw [HH.out]; simp [*], K2⟩)
    · by_cases e2 : st = 2
      · subst e2
        by_cases e3 : grace ≤ clock - since
        · go_enter Tryz.func84, Tryz.ntmps84
          go_wp2
          all_goals (go_ret; exact ⟨by rw [HH.out]; simp [*], K2⟩)
        · go_enter Tryz.func84, Tryz.ntmps84
          go_wp2
          all_goals (go_ret; exact ⟨by rw [HH.out]; simp [*], K2⟩)
      · by_cases e3 : st = 3
        · subst e3
          go_enter Tryz.func84, Tryz.ntmps84
          go_wp2
          all_goals (go_ret; exact ⟨by rw [HH.out]; simp [*], K2⟩)
        · go_enter Tryz.func84, Tryz.ntmps84
          go_wp2
          all_goals (go_ret; exact ⟨by rw [HH.out]; simp [*], K2⟩)

/-- Records and a code: what is planned. -/
def RecsA (w : World) (a : List RecD × Int) (e : Ending) (w' : World) : Prop := ∃ v, e = .returned (.tuple #[v, .int .i64 a.2]) ∧ OR w' w.heap.size v a.1 ∧ Below w.heap.size w w'
theorem RecsA.back {w w1 w2 : World} {a : List RecD × Int} {e : Ending} (h : RecsA w1 a e w2) (K : Below w.heap.size w w1) : RecsA w a e w2 := by
  obtain ⟨v, he, ho, hb⟩ := h
  exact ⟨v, he, ho.base K.size, K.trans (hb.mono K.size)⟩
theorem OR.first {w : World} {B : Nat} (hB : B ≤ w.heap.size) (k a b : Int) : OR (w.alloc (.cells #[.int .i64 k, .int .i64 a, .int .i64 b] 77)) B (.slice (some ⟨w.heap.size, 0, none⟩) 1 1) [⟨k, a, b⟩] :=
  own_of_heap (heap_alloc_new w _) rfl rfl hB (by unfold maxLen; decide)
theorem l10No_any (c : Int) (w : World) : Calls Tryz.prog 25 #[.int .i64 c] w (RecsA w (noR c)) := by
  go_enter Tryz.func25, Tryz.ntmps25
  go_wp2
  go_ret2
  exact ⟨_, rfl, OR.empty (Nat.le_refl _), (Below.refl _ _).alloc (Nat.le_refl _) _⟩
end Go.Proofs.YtdphpjnecjofeaaGreat
/- We -/
set_option linter.unusedVariables false
namespace Go.Proofs.YtdphpjnecjofeaaGreat
open Go.RowKit

theorem mount_pod {d : PlanD} (h : planOkB d = true) {i : Nat} (hi : i < d.n2) : ∃ m : Nat, d.x2 (i * 2) = m ∧ m < d.n0 ∧ mpod d i = m := by
  have hf := mount_facts h hi
  simp only [planOkB, Bool.and_eq_true] at h
  obtain ⟨⟨-, hm⟩, -⟩ := h
  have := allB_true.1 hm i hi
  simp only [mountB, Bool.and_eq_true, inB_true] at this
  exact ⟨mpod d i, by unfold mpod; omega, hf.1, rfl⟩
theorem dev_mnt {d : PlanD} (h : planOkB d = true) {i : Nat} (hi : i < d.n3) : ∃ m : Nat, d.x3 i = m ∧ m < d.n2 ∧ dmnt d i = m := by
  simp only [planOkB, Bool.and_eq_true] at h
  obtain ⟨-, hm⟩ := h
  have := allB_true.1 hm i hi
  simp only [deviceB, inB_true] at this
  exact ⟨dmnt d i, by unfold dmnt; omega, by unfold dmnt; omega, rfl⟩
set_option maxRecDepth 4000 in
set_option maxHeartbeats 4000000 in
theorem l9Give_any (pv sv : Value) (d : PlanD) (s : StD) (i : Nat) (w : World) (hp : IsPlan w w.heap.size pv d) (hs : IsSt w w.heap.size sv s) (hok : StOk d s) (hi : i < d.n3) :
    Calls Tryz.prog 88 #[pv, sv, .int .i64 i] w fun e w' => e = .returned (.bool (giveB d s i)) ∧ Below w.heap.size w w' := by
  have HP := Lib.hid hp
  have HS := Lib.hid hs
  obtain ⟨⟨P0, P1, P2, P3, k0, k1, k2, k3, rfl, s0, s1, s2, s3⟩, b0, b1, b2, b3⟩ := hp
  obtain ⟨⟨A0, A1, A2, A3, c0, c1, c2, c3, rfl, t0, t1, t2, t3⟩, f0, f1, f2, f3⟩ := hs
  have S0 := Lib.hid s0
  have S1 := Lib.hid s1
  have S2 := Lib.hid s2
  have S3 := Lib.hid s3
  have R0 := Lib.hid t0
  have R1 := Lib.hid t1
  have R2 := Lib.hid t2
  have R3 := Lib.hid t3
  unfold maxLen at b0 b1 b2 b3 f0 f1 f2 f3
  clear s0 s1 s2 s3 t0 t1 t2 t3
  have T0 := Two.start w (planC P0 P1 P2 P3 d.n0 k0 d.n1 k1 d.n2 k2 d.n3 k3 d.l d.p d.t) (stC A0 A1 A2 A3 s.pods.length c0 s.mnts.length c1 s.devs.length c2 s.lks.length c3 s.ph s.co s.ck s.bo s.ba s.lb s.gd s.pr) 42 47
  have hD := T0.O.C
  have hC := T0.A.C
  have hld : i < s.devs.length := by rw [hok.nd]; exact hi
  obtain ⟨m, hm, hml, hmp⟩ := dev_mnt hok.plan hi
  have hlm : m < s.mnts.length := by rw [hok.nm]; exact hml
  obtain ⟨b, off, rfl, hb, q0⟩ := (S3.out.own T0.A).cell1 hi
  obtain ⟨b', off', rfl, hb', hc⟩ := (R2.out.below T0.A.K (Nat.le_refl _)).cell hld
  have p0 := (hc 0 (by decide)).trans (devCs_at s.devs (i := i * 1 + 0) (by omega))
  rw [Nat.add_zero, Nat.mul_one] at p0
  obtain ⟨b2_, off2, rfl, hb2, hc2⟩ := (R1.out.below T0.A.K (Nat.le_refl _)).cell hlm
  have r0 := (hc2 0 (by decide)).trans (mntCs_at s.mnts hlm).1
  rw [Nat.add_zero] at r0
  clear hc hc2
  rw [hm] at q0
  have GB : Hid (giveB d s i = (devA s.devs i && !(mntA s.mnts m).1)) := Lib.hid (by unfold giveB; rw [hmp]; rfl)
  generalize giveB d s i = ans at GB
  generalize devA s.devs i = x at p0 GB
  generalize (mntA s.mnts m).1 = y at r0 GB
  have KT := T0.A.K
  cases x
  · go_enter Tryz.func88, Tryz.ntmps88
    go_wp2_with fail
    go_quiet (fail)
    go_wp2
    all_goals (go_ret; exact ⟨ret_bool (by rw [GB.out]; rfl), (T0.A.drewN _).K⟩)
  · go_enter Tryz.func88, Tryz.ntmps88
    go_wp2_with fail
    go_quiet (fail)
    go_wp2
    all_goals (go_ret; exact ⟨ret_bool (by rw [GB.out]; simp), (T0.A.drewN _).K⟩)

end Go.Proofs.YtdphpjnecjofeaaGreat
/- Wf -/
set_option linter.unusedVariables false
namespace Go.Proofs.YtdphpjnecjofeaaGreat
open Go.RowKit

theorem Two.drewN {w w1 : World} {cs os : Array Value} (h : Two w w1 cs os) (n : Nat) : Two w (w1.drewN n) cs os := ⟨h.A.drewN n, h.O.drewN n⟩
theorem all_yes {n : Nat} {f : Nat → Bool} (h : ∀ j, j < n → f j = true) : (List.range n).all f = true := by simpa using h
theorem all_not {n k : Nat} {f : Nat → Bool} (hk : k < n) (h : f k = false) : (List.range n).all f = false := by
  rw [List.all_eq_false]
  exact ⟨k, by simpa using hk, by simp [h]⟩
def kidB (d : PlanD) (s : StD) (i j : Nat) : Bool := !(decide (mpar d j = i) && (mntA s.mnts j).1)

set_option maxRecDepth 4000 in
set_option maxHeartbeats 4000000 in
theorem l9Free_any (pv sv : Value) (d : PlanD) (s : StD) (i : Nat) (w : World) (hp : IsPlan w w.heap.size pv d) (hs : IsSt w w.heap.size sv s) (hok : StOk d s) (hi : i < d.n2) :
    Calls Tryz.prog 87 #[pv, sv, .int .i64 i] w fun e w' => e = .returned (.bool (freeB d s i)) ∧ Below w.heap.size w w' := by
  have HP := Lib.hid hp
  have HS := Lib.hid hs
  obtain ⟨⟨P0, P1, P2, P3, k0, k1, k2, k3, rfl, s0, s1, s2, s3⟩, b0, b1, b2, b3⟩ := hp
  obtain ⟨⟨A0, A1, A2, A3, c0, c1, c2, c3, rfl, t0, t1, t2, t3⟩, f0, f1, f2, f3⟩ := hs
  have S0 := Lib.hid s0
  have S1 := Lib.hid s1
  have S2 := Lib.hid s2
  have S3 := Lib.hid s3
  have R0 := Lib.hid t0
  have R1 := Lib.hid t1
  have R2 := Lib.hid t2
  have R3 := Lib.hid t3
  unfold maxLen at b0 b1 b2 b3 f0 f1 f2 f3
  clear s0 s1 s2 s3 t0 t1 t2 t3
  have T0 := Two.start w (planC P0 P1 P2 P3 d.n0 k0 d.n1 k1 d.n2 k2 d.n3 k3 d.l d.p d.t) (stC A0 A1 A2 A3 s.pods.length c0 s.mnts.length c1 s.devs.length c2 s.lks.length c3 s.ph s.co s.ck s.bo s.ba s.lb s.gd s.pr) 42 47
  have OK := Lib.hid hok
  have hD := T0.O.C
  have hC := T0.A.C
  have HLN := Lib.hid hok.nm
  obtain ⟨m, hm, hml, hmp⟩ := mount_pod hok.plan hi
  have hlm : m < s.pods.length := by rw [hok.np]; exact hml
  have S2' := S2
  have R1' := R1
  obtain ⟨b, off, hPe, hb, q0, -⟩ := (S2.out.own T0.A).cell2 hi
  obtain ⟨b', off', hAe, hb', hc⟩ := (R1.out.below T0.A.K (Nat.le_refl _)).cell (i := i) (by rw [HLN.out]; exact hi)
  have p0 := (hc 0 (by decide)).trans (mntCs_at s.mnts (i := i) (by rw [HLN.out]; exact hi)).1
  obtain ⟨b2_, off2, rfl, hb2, hc2⟩ := (R0.out.below T0.A.K (Nat.le_refl _)).cell hlm
  have r0 := (hc2 0 (by decide)).trans (podCs_at s.pods hlm).1
  rw [Nat.add_zero] at r0 p0
  subst hPe hAe
  clear hc hc2 hok
  rw [hm] at q0
  have GB : Hid (freeB d s i = ((mntA s.mnts i).1 && !aliveB (podA s.pods m).1 && (List.range d.n2).all (kidB d s i))) := Lib.hid (by unfold freeB; rw [hmp]; rfl)
  generalize freeB d s i = ans at GB
  have hlti : i < s.mnts.length := by rw [HLN.out]; exact hi
  generalize hX : (mntA s.mnts i).1 = x at p0 GB
  generalize (podA s.pods m).1 = y at r0 GB
  clear hX
  cases x
  · go_enter Tryz.func87, Tryz.ntmps87
    go_wp2_with fail
    go_quiet ((go_at_call 83; exact Calls.quiet_of_same ((alive_any _ _).mono fun e w' h => ⟨h.1, h.2.symm⟩)))
    go_wp2
    all_goals (go_ret; exact ⟨ret_bool (by rw [GB.out]; rfl), (T0.A.drewN _).K⟩)
  · cases ha : aliveB y
    · go_enter Tryz.func87, Tryz.ntmps87
      go_wp2_with fail
      go_quiet ((go_at_call 83; exact Calls.quiet_of_same ((alive_any _ _).mono fun e w' h => ⟨h.1, h.2.symm⟩)))
      have T1 := T0.drewN nq
      have HA := Lib.hid ha
      clear ha
      go_wp2_with fail
      go_loopw [7] (fun j wr => ∃ k : Nat, k ≤ d.n2 ∧ j = .int .i64 k ∧ (∀ j, j < k → kidB d s i j = true) ∧ Two w wr (planC P0 P1 (some ⟨b, off, none⟩) P3 d.n0 k0 d.n1 k1 d.n2 k2 d.n3 k3 d.l d.p d.t) (stC (some ⟨b2_, off2, none⟩) (some ⟨b', off', none⟩) A2 A3 s.pods.length c0 s.mnts.length c1 s.devs.length c2 s.lks.length c3 s.ph s.co s.ck s.bo s.ba s.lb s.gd s.pr)) (fun j _ => d.n2 - (intOf j).toNat)
      case atStart => exact ⟨0, Nat.zero_le _, rfl, fun j hj => absurd hj (by omega), T1⟩
      case round =>
        clear hC hD T1 p0 q0 r0
        obtain ⟨k, hk, rfl, hall, T⟩ := hrel
        have HALL := Lib.hid hall
        clear hall
        have hC := T.A.C
        have hD := T.O.C
        by_cases hlt : k < d.n2
        · have hlp : k < s.mnts.length := by rw [HLN.out]; exact hlt
          obtain ⟨b3_, off3, e3, hb3, -, q1⟩ := (S2'.out.own T.A).cell2 hlt
          injection e3 with e3
          injection e3 with e3 e4 _
          subst e3 e4
          obtain ⟨b4_, off4, e3, hb4, hc⟩ := (R1'.out.below T.A.K (Nat.le_refl _)).cell hlp
          injection e3 with e3
          injection e3 with e3 e4 _
          subst e3 e4
          have r0 := (hc 0 (by decide)).trans (mntCs_at s.mnts (i := k) hlp).1
          rw [Nat.add_zero] at r0
          clear hc
          have KB : Hid (kidB d s i k = !(decide (d.x2 (k * 2 + 1) = i) && (mntA s.mnts k).1)) := Lib.hid rfl
          have HFALSE : Hid (kidB d s i k = false → ans = false) := Lib.hid fun h => by rw [GB.out, all_not hlt h]; simp
          have HSTEP : Hid (kidB d s i k = true → ∀ j, j < k + 1 → kidB d s i j = true) := Lib.hid fun h => step_all HALL.out h
          generalize kidB d s i k = kb at KB HFALSE HSTEP
          generalize (mntA s.mnts k).1 = z at r0 KB
          cases hv : (d.x2 (k * 2 + 1) == (i : Int))
          · have CF : Hid (kb = true) := Lib.hid (by rw [KB.out]; simp at hv; simp [hv])
            go_wp2
            refine ⟨⟨k + 1, by omega, by go_num, HSTEP.out CF.out, T⟩, by simp [intOf]; omega⟩
          · cases z
            · have CF : Hid (kb = true) := Lib.hid (by rw [KB.out]; simp)
              go_wp2
              refine ⟨⟨k + 1, by omega, by go_num, HSTEP.out CF.out, T⟩, by simp [intOf]; omega⟩
            · have CF : Hid (kb = false) := Lib.hid (by rw [KB.out]; simp at hv; simp [hv])
              go_wp2
              all_goals (go_ret; exact ⟨ret_bool (by rw [HFALSE.out CF.out]), T.A.K⟩)
        · obtain rfl : k = d.n2 := by omega
          go_wp2
          all_goals (go_ret; exact ⟨ret_bool (by rw [GB.out, HA.out, all_yes HALL.out]; rfl), T.A.K⟩)
    · go_enter Tryz.func87, Tryz.ntmps87
      go_wp2_with fail
      go_quiet ((go_at_call 83; exact Calls.quiet_of_same ((alive_any _ _).mono fun e w' h => ⟨h.1, h.2.symm⟩)))
      have HA := Lib.hid ha
      go_wp2
      all_goals (go_ret; exact ⟨ret_bool (by rw [GB.out, HA.out]; rfl), (T0.A.drewN _).K⟩)

end Go.Proofs.YtdphpjnecjofeaaGreat
/- Wg -/
set_option linter.unusedVariables false
namespace Go.Proofs.YtdphpjnecjofeaaGreat
open Go.RowKit

end Go.Proofs.YtdphpjnecjofeaaGreat
/- Wh -/
set_option linter.unusedVariables false
namespace Go.Proofs.YtdphpjnecjofeaaGreat
open Go.RowKit

end Go.Proofs.YtdphpjnecjofeaaGreat
