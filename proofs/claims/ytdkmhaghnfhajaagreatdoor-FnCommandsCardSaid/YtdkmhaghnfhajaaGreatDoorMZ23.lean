/-
  Chapter 10 of the program: evict, changePod, busy.
-/
import Derived.Test.YtdkmhaghnfhajaaGreatDoorMZ22
import Derived.Test.YtdkmhaghnfhajaaGreatDoorMZ18
import Derived.Test.YtdkmhaghnfhajaaGreatDoorMZ11
import Derived.Test.YtdkmhaghnfhajaaGreatDoorMZ8
import Derived.BigQuiet
import Derived.Test.YtdkmhaghnfhajaaGreatDoorMZ9
import Derived.Test.YtdkmhaghnfhajaaGreatDoorMZ6
/- Mc -/
set_option linter.unusedVariables false
namespace Go.Proofs.YtdkmhaghnfhajaaGreatDoor
open Go.RowKit Go.Maps

theorem law64 : Keyed Tryz.prog 2 := int_keyed Tryz.underlying2
theorem zero_bool (w : World) : (zeroValue 4).run Tryz.prog w = .ok (.bool false) w := by kernel_rfl
theorem Keeps.of_grownM {w w' : World} {b : Nat} (h : w.grownBy w' (some b)) : Keeps (fun x => x = b) w w' := by
  obtain ⟨h1, h2, h3, h4, h5⟩ := h
  exact ⟨h1, h2, h3, h4, fun i hi hn => h5 i hi (fun e => hn (by cases e; rfl))⟩
theorem Two.keepB {w w1 w2 : World} {cs os : Array Value} {b : Nat} (h : Two w w1 cs os) (hg : w1.grownBy w2 (some b)) (hb : w.heap.size + 2 ≤ b) : Two w w2 cs os :=
  ⟨h.A.keeps (Keeps.of_grownM hg) (by intro x hx; omega) (by omega), h.O.keeps (Keeps.of_grownM hg) (by intro x hx; omega) (by omega)⟩
/-- What leftIn answers: a map of the call's own. -/
def LeftIn (w : World) (d : PlanD) (s : StD) (g : Int) (e : Ending) (w' : World) : Prop :=
  ∃ B n D, e = .returned (.map (some B)) ∧ w'.ownsMap Tryz.prog 2 (plainElem (H := Unit) Tryz.prog 4) B n D ∧ (∀ i : Nat, i < d.n0 → D.atKey (.int .i64 i) (.lit (.bool false)) = .lit (.bool (hP d s g i))) ∧
    (Go.Maps.size D : Int) = healthyN d s g ∧ Below w.heap.size w w'

set_option maxRecDepth 100000 in
set_option maxHeartbeats 4000000 in
theorem implLeftIn_any (pv sv : Value) (d : PlanD) (s : StD) (g : Int) (w : World) (hp : IsPlan w w.heap.size pv d) (hs : IsSt w w.heap.size sv s) (hok : StOk d s) :
    Calls Tryz.prog 226 #[pv, sv, .int .i64 g] w (LeftIn w d s g) := by
  have HP := Lib.hid hp
  have HS := Lib.hid hs
  have OK := Lib.hid hok
  have HL := Lib.hid (planOk_lock hok.plan)
  obtain ⟨⟨P0, P1, P2, P3, k0, k1, k2, k3, rfl, -, -, -, -⟩, b0, b1, b2, b3⟩ := hp
  obtain ⟨⟨A0, A1, A2, A3, c0, c1, c2, c3, rfl, t0, -, -, -⟩, f0, f1, f2, f3⟩ := hs
  have R0 := Lib.hid t0
  clear t0 hok
  unfold maxLen at b0 b1 b2 b3 f0 f1 f2 f3
  have T0 := Two.start w (planC P0 P1 P2 P3 d.n0 k0 d.n1 k1 d.n2 k2 d.n3 k3 d.l d.p d.t) (stC A0 A1 A2 A3 s.pods.length c0 s.mnts.length c1 s.devs.length c2 s.lks.length c3 s.ph s.co s.ck s.bo s.ba s.lb s.gd s.pr) 29 34
  have hmm := @run_makeMap Tryz.prog
  go_enter Tryz.func226, Tryz.ntmps226
  go_wp2_with fail
  have T1 := T0.step ((Below.refl _ _).alloc (Nat.le_refl _) (.map #[] 0))
  have M1 := World.ownsMap_made ((w.alloc (.cells (planC P0 P1 P2 P3 d.n0 k0 d.n1 k1 d.n2 k2 d.n3 k3 d.l d.p d.t) 29)).alloc (.cells (stC A0 A1 A2 A3 s.pods.length c0 s.mnts.length c1 s.devs.length c2 s.lks.length c3 s.ph s.co s.ck s.bo s.ba s.lb s.gd s.pr) 34)) Tryz.prog 2 (plainElem (H := Unit) Tryz.prog 4)
  simp only [heap_size_alloc_] at M1
  refine (implPodsIn_any _ d g _ ((HP.out.below T1.A.K (Nat.le_refl _)).more T1.A.K.size) (by have := HL.out; omega)).mono ?_
  rintro e w2 ⟨v, rfl, O, hb⟩
  rw [found_yes OK.out.plan] at O
  obtain ⟨L, hL⟩ : ∃ L, hits d.n0 (fun i => d.x0 (i * 4)) g = L := ⟨_, rfl⟩
  rw [hL] at O
  obtain ⟨Q, c, r0, rfl, hQ, hB, hz, R⟩ := open_list O
  have T2 := T1.step hb
  have M2 := M1.kept (row := none) ⟨hb.os, hb.tape, hb.output, hb.size, fun k hk _ => hb.block k hk⟩ (by simp)
  have HQ := Lib.hid hQ
  have HR := Lib.hid R
  have HB := Lib.hid hB
  have HLn : Hid (L.length ≤ 12) := Lib.hid (by rw [← hL]; have := hits_le d.n0 (fun i => d.x0 (i * 4)) g; have := HL.out; omega)
  have HLR : Hid (L.Pairwise (· < ·)) := Lib.hid (by rw [← hL]; exact hits_rise _ _ _)
  have HLW : Hid (∀ k, k < L.length → (Lit.int .i64 (L.getD k 0)).wf = true) := Lib.hid fun k hk => by
    have hm : L.getD k 0 ∈ hits d.n0 (fun i => d.x0 (i * 4)) g := by
      rw [hL]
      simp [List.getD, hk]
    have := mem_hits.1 hm
    have := HL.out
    exact WalkArith.wf_i64 (by omega)
  have HLL := Lib.hid hL.symm
  simp only [heap_size_alloc_] at hB
  have HB := Lib.hid hB
  have HZ := Lib.hid hz
  have HR := Lib.hid R
  clear hL hQ hB hz R O M1 T1 T0 hb
  have hln := HLn.out
  go_wp2_with fail
  go_loopw [17] (fun i wr => ∃ (k : Nat) (D : DataW Unit), k ≤ L.length ∧ i = .int .i64 k ∧ wr.ownsMap Tryz.prog 2 (plainElem Tryz.prog 4) (w.heap.size + 1 + 1) k D ∧ SetD D (fun i => decide (i ∈ L.take k)) k ∧ Keeps (fun x => x = w.heap.size + 1 + 1) w2 wr ∧ Two w wr (planC P0 P1 P2 P3 d.n0 k0 d.n1 k1 d.n2 k2 d.n3 k3 d.l d.p d.t) (stC A0 A1 A2 A3 s.pods.length c0 s.mnts.length c1 s.devs.length c2 s.lks.length c3 s.ph s.co s.ck s.bo s.ba s.lb s.gd s.pr)) (fun i _ => L.length - (intOf i).toNat)
  case atStart => exact ⟨0, _, Nat.zero_le _, rfl, M2, SetD.empty.congr (fun i => by simp) rfl, Keeps.refl _ _, T2⟩
  case round =>
    clear M2 T2
    obtain ⟨k, D, hk, rfl, M, hS, hK, T⟩ := hrel
    have HM := Lib.hid M
    have HSD := Lib.hid hS
    have HK := Lib.hid hK
    clear M hS hK
    have hC := T.A.C
    have hD := T.O.C
    by_cases hlt : k < L.length
    · have e0 := HQ.out (by omega)
      subst e0
      have q0 := ((HR.out.goK HZ.out HK.out (fun hn e => by have := HB.out; omega)) k hlt).1
      have hkey : keyOf Tryz.prog 2 (.int .i64 (L.getD k 0)) = some (.int .i64 (L.getD k 0)) := keyOf_int_mk Tryz.underlying2 (HLW.out k hlt)
      have HKEY := Lib.hid hkey
      have HSN := Lib.hid (HSD.out.one HLR.out hlt)
      clear hkey
      generalize L.getD k 0 = x at *
      go_wp2_with (first
        | (at_mapUpdate; refine wpList_mapUpdate_own _ rfl _ _ _ 240 rfl 2 4 law64 Tryz.underlying240 _ (w.heap.size + 1 + 1) k _ rfl HM.out (by unfold maxLen; omega) _ _ _ rfl rfl HKEY.out _ [] (plainElem_bool Tryz.underlying4 true) ?_; intro w1 hown1 hgrow1))
      refine ⟨⟨k + 1, _, by omega, by go_num, hown1, HSN.out, HK.out.trans (Keeps.of_grownM hgrow1), T.keepB hgrow1 (by omega)⟩, by simp [intOf]; omega⟩
    · obtain rfl : k = L.length := by omega
      have HST := Lib.hid (left_start (s := s) HLL.out HSD.out)
      clear HSD HK HR HQ HZ HB
      obtain ⟨hp, hnp⟩ : s.pods.length ≤ 12 ∧ s.pods.length = d.n0 := by have := OK.out.np; have := HL.out; omega
      have HNP := Lib.hid hnp
      clear hnp
      go_wp2_with fail
      go_loopw [27] (fun i wr => ∃ (k : Nat) (D : DataW Unit), k ≤ s.pods.length ∧ i = .int .i64 k ∧ wr.ownsMap Tryz.prog 2 (plainElem Tryz.prog 4) (w.heap.size + 1 + 1) L.length D ∧ SetD D (leftF d s g k) (leftN d s g k) ∧ Two w wr (planC P0 P1 P2 P3 d.n0 k0 d.n1 k1 d.n2 k2 d.n3 k3 d.l d.p d.t) (stC A0 A1 A2 A3 s.pods.length c0 s.mnts.length c1 s.devs.length c2 s.lks.length c3 s.ph s.co s.ck s.bo s.ba s.lb s.gd s.pr)) (fun i _ => s.pods.length - (intOf i).toNat)
      case atStart => exact ⟨0, _, Nat.zero_le _, rfl, HM.out, HST.out, T⟩
      case round =>
        clear HM HST T hC hD
        obtain ⟨k, D, hk, rfl, M, hS, T⟩ := hrel
        have HM := Lib.hid M
        have HSD := Lib.hid hS
        clear M hS
        have hC := T.A.C
        have hD := T.O.C
        by_cases hlt : k < s.pods.length
        · obtain ⟨b, off, rfl, hb, hc⟩ := (R0.out.below T.A.K (Nat.le_refl _)).cell hlt
          have hp := podCs_at s.pods (i := k) hlt
          have q0 := (hc 0 (by decide)).trans hp.1
          have q1 := (hc 1 (by decide)).trans hp.2
          rw [Nat.add_zero] at q0
          clear hc hp
          have hk0 : k < d.n0 := by have := HNP.out; omega
          have hkey : keyOf Tryz.prog 2 (.int .i64 k) = some (.int .i64 k) := keyOf_int_mk Tryz.underlying2 (WalkArith.wf_i64 (by omega))
          have HKEY := Lib.hid hkey
          clear hkey
          by_cases hx : (podA s.pods k).1 = 0
          · have HN := Lib.hid (left_stay HSD.out hx)
            generalize podA s.pods k = r at q0 q1 hx
            obtain ⟨x, y⟩ := r
            dsimp only at q0 q1 hx
            subst hx
            go_wp2_with fail
            refine ⟨⟨k + 1, D, by omega, by go_num, HM.out.alloc _, HN.out, T.step ((Below.refl _ _).alloc (Nat.le_refl _) _)⟩, by simp [intOf]; omega⟩
          · have HN := Lib.hid (left_drop HSD.out hk0 hx)
            generalize podA s.pods k = r at q0 q1 hx
            obtain ⟨x, y⟩ := r
            dsimp only at q0 q1 hx
            go_wp2_with (first
              | (at_delete; refine wpList_delete_own _ rfl _ _ 240 2 rfl 4 law64 Tryz.underlying240 _ (w.heap.size + 1 + 1) L.length D rfl (HM.out.alloc _) _ _ rfl HKEY.out ?_; intro w1 hown1 hturn1))
            refine ⟨⟨k + 1, _, by omega, by go_num, hown1, HN.out, (T.step ((Below.refl _ _).alloc (Nat.le_refl _) _)).keepB hturn1.grown (by omega)⟩, by simp [intOf]; omega⟩
        · obtain rfl : k = s.pods.length := by omega
          have HE := Lib.hid (left_end (by have := HSD.out; rw [HNP.out] at this; exact this))
          clear HSD
          go_wp2_with fail
          go_ret
          exact ⟨_, _, D, rfl, HM.out, HE.out.1, HE.out.2, T.A.K⟩

set_option maxRecDepth 100000 in
set_option maxHeartbeats 4000000 in
theorem implMayEvict_any (pv sv : Value) (d : PlanD) (s : StD) (a : Int) (w : World) (hp : IsPlan w w.heap.size pv d) (hs : IsSt w w.heap.size sv s) :
    Calls Tryz.prog 214 #[pv, sv, .int .i64 a] w fun e w' => e = .returned (.bool (stOkB d s && mayEvictB d s a)) ∧ Below w.heap.size w w' := by
  have HP := Lib.hid hp
  have HS := Lib.hid hs
  obtain ⟨⟨P0, P1, P2, P3, k0, k1, k2, k3, rfl, s0, s1, -, -⟩, b0, b1, b2, b3⟩ := hp
  obtain ⟨⟨A0, A1, A2, A3, c0, c1, c2, c3, rfl, -, -, -, -⟩, f0, f1, f2, f3⟩ := hs
  have S0 := Lib.hid s0
  have S1 := Lib.hid s1
  unfold maxLen at b0 b1 b2 b3 f0 f1 f2 f3
  clear s0 s1
  have T0 := Two.start w (planC P0 P1 P2 P3 d.n0 k0 d.n1 k1 d.n2 k2 d.n3 k3 d.l d.p d.t) (stC A0 A1 A2 A3 s.pods.length c0 s.mnts.length c1 s.devs.length c2 s.lks.length c3 s.ph s.co s.ck s.bo s.ba s.lb s.gd s.pr) 29 34
  obtain ⟨ans, hans⟩ : ∃ ans, (stOkB d s && mayEvictB d s a) = ans := ⟨_, rfl⟩
  rw [hans]
  have HANS := Lib.hid hans
  clear hans
  go_enter Tryz.func214, Tryz.ntmps214
  go_wp2_with fail
  refine (implStateOk_any _ _ d s _ ((HP.out.below T0.A.K (Nat.le_refl _)).more T0.A.K.size) ((HS.out.below T0.A.K (Nat.le_refl _)).more T0.A.K.size)).mono ?_
  rintro e w1 ⟨rfl, hb⟩
  have T1 := T0.step hb
  have hC := T1.A.C
  have hD := T1.O.C
  clear hb T0
  cases hok : stOkB d s
  · have OKB := Lib.hid hok
    clear hok
    go_wp2
    all_goals (go_ret; exact ⟨ret_bool (by rw [← HANS.out, OKB.out]; rfl), T1.A.K⟩)
  · have OK := Lib.hid (stOkB_iff.1 hok)
    have OKB := Lib.hid hok
    clear hok
    cases hph : (s.ph != 2)
    case true =>
      have HPH : Hid (¬ s.ph = 2) := Lib.hid (by simpa using hph)
      go_wp2
      all_goals (go_ret; exact ⟨ret_bool (by rw [← HANS.out, OKB.out]; simp [mayEvictB, HPH.out]), T1.A.K⟩)
    case false =>
      have HPH : Hid (s.ph = 2) := Lib.hid (by simpa using hph)
      go_wp2_with fail
      refine (isIndex_any _ _ _).mono ?_
      rintro e w2 ⟨rfl, rfl⟩
      cases hin : inB a 0 (d.n0 - 1)
      · have HIN := Lib.hid hin
        clear hin
        go_wp2
        all_goals (go_ret; exact ⟨ret_bool (by rw [← HANS.out, OKB.out]; simp [mayEvictB, HIN.out]), T1.A.K⟩)
      · have HIN := Lib.hid hin
        obtain ⟨i, rfl, hi⟩ := index_nat (a := a) (n := d.n0) (by rw [hin]; decide)
        clear hin hph
        obtain ⟨m, hm, hml⟩ := pod_group OK.out.plan hi
        have HANS2 : Hid (ans = (hP d s m i && decide (d.x1 m < healthyN d s m))) := Lib.hid (by
          rw [← HANS.out, OKB.out, mayEvictB, HIN.out, HPH.out, Int.toNat_natCast, hm, Int.toNat_natCast]
          simp [podAt, podA, hP, hm])
        obtain ⟨b, off, rfl, hb, q0, -, -, -⟩ := (S0.out.own T1.A).cell4 hi
        rw [hm] at q0
        clear hm
        go_wp2_with fail
        refine (implLeftIn_any _ _ d s m _ ((HP.out.below T1.A.K (Nat.le_refl _)).more T1.A.K.size) ((HS.out.below T1.A.K (Nat.le_refl _)).more T1.A.K.size) OK.out).mono ?_
        rintro e w3 ⟨B, n, D, rfl, hown, hat, hsz, hb3⟩
        have T3 := T1.step hb3
        obtain ⟨b1_, off1, rfl, hb1, r0⟩ := (S1.out.below T3.A.K (Nat.le_refl _)).cell1 hml
        have hi12 : i < 1000 := by have := planOk_lock OK.out.plan; omega
        have hkey : keyOf Tryz.prog 2 (.int .i64 i) = some (.int .i64 i) := keyOf_int_mk Tryz.underlying2 (WalkArith.wf_i64 (by omega))
        have hlk : ∀ q, (Instr.lookup 240 (.map (some B)) (.int .i64 i) false).run Tryz.prog (w3.drewN q) = .ok (.bool (hP d s m i)) (w3.drewN q) := fun q => by
          have hown' : (w3.drewN q).ownsMap Tryz.prog 2 (plainElem (H := Unit) Tryz.prog 4) B n D := hown.kept (row := none) ⟨(below_drewN (Below.refl w3.heap.size w3) q).os, (below_drewN (Below.refl w3.heap.size w3) q).tape, (below_drewN (Below.refl w3.heap.size w3) q).output, (below_drewN (Below.refl w3.heap.size w3) q).size, fun k hk _ => (below_drewN (Below.refl w3.heap.size w3) q).block k hk⟩ (by simp)
          obtain ⟨v, ps, hrun, hv⟩ := hown'.lookup law64 Tryz.underlying240 (zero_bool _) (plainElem_bool Tryz.underlying4 false) hkey
          obtain ⟨x, rfl, hx⟩ := plainElem_bool_is Tryz.underlying4 hv
          rw [hat i hi] at hx
          simp only [Prod.mk.injEq, DataW.lit.injEq, Lit.bool.injEq] at hx
          rw [hx.1]
          exact hrun
        have hlen : ∀ q ty, (Builtin.len_ #[240] ty #[.map (some B)]).run Tryz.prog (w3.drewN q) = .ok (.int .i64 (healthyN d s m)) (w3.drewN q) := fun q ty => by
          have hown' : (w3.drewN q).ownsMap Tryz.prog 2 (plainElem (H := Unit) Tryz.prog 4) B n D := hown.kept (row := none) ⟨(below_drewN (Below.refl w3.heap.size w3) q).os, (below_drewN (Below.refl w3.heap.size w3) q).tape, (below_drewN (Below.refl w3.heap.size w3) q).output, (below_drewN (Below.refl w3.heap.size w3) q).size, fun k hk _ => (below_drewN (Below.refl w3.heap.size w3) q).block k hk⟩ (by simp)
          rw [← hsz]
          exact hown'.len Tryz.underlying240 ty
        clear hown hat hsz hkey hb3 T1 hC hD q0 hb
        have hC := T3.A.C
        have hD := T3.O.C
        generalize healthyN d s m = hn at *
        cases hp : hP d s m i
        · rw [hp] at hlk HANS2
          go_wp2_with fail
          go_quiet (fail)
          go_wp2
          all_goals (go_ret; exact ⟨ret_bool (by rw [HANS2.out]; rfl), below_drewN T3.A.K _⟩)
        · rw [hp] at hlk HANS2
          go_wp2_with fail
          go_quiet (fail)
          go_wp2
          all_goals (go_ret; exact ⟨ret_bool (by rw [HANS2.out]; simp), below_drewN T3.A.K _⟩)
end Go.Proofs.YtdkmhaghnfhajaaGreatDoor
/- Jd -/
set_option linter.unusedVariables false
namespace Go.Proofs.YtdkmhaghnfhajaaGreatDoor
open Go.RowKit

/-- The cells of a command. -/
abbrev cmdC (A0 A1 A2 A3 : Option Addr) (n0 c0 n1 c1 n2 c2 n3 c3 : Nat) (l p t : Int) (E0 E1 E2 E3 : Option Addr) (m0 k0 m1 k1 m2 k2 m3 k3 : Nat) (ph : Int) (co : Bool) (ck bo ba lb gd pr a b : Int) : Array Value :=
  #[.slice A0 n0 c0, .slice A1 n1 c1, .slice A2 n2 c2, .slice A3 n3 c3, .int .i64 l, .int .i64 p, .int .i64 t,
    .int .i64 ph, .bool co, .int .i64 ck, .int .i64 bo, .int .i64 ba, .int .i64 lb, .slice E0 m0 k0, .slice E1 m1 k1, .slice E2 m2 k2, .slice E3 m3 k3, .int .i64 gd, .int .i64 pr, .int .i64 a, .int .i64 b]
/-- A command that can be read below block B. -/
structure IsCmd (w : World) (B : Nat) (v : Value) (d : PlanD) (s : StD) (a b : Int) : Prop where
  it : ∃ A0 A1 A2 A3 c0 c1 c2 c3 E0 E1 E2 E3 k0 k1 k2 k3, v = .agg (cmdC A0 A1 A2 A3 d.n0 c0 d.n1 c1 d.n2 c2 d.n3 c3 d.l d.p d.t E0 E1 E2 E3 s.pods.length k0 s.mnts.length k1 s.devs.length k2 s.lks.length k3 s.ph s.co s.ck s.bo s.ba s.lb s.gd s.pr a b) ∧ (Sl w B 4 A0 d.n0 d.x0 ∧ Sl w B 1 A1 d.n1 d.x1 ∧ Sl w B 2 A2 d.n2 d.x2 ∧ Sl w B 1 A3 d.n3 d.x3) ∧
    SlV w B 2 E0 s.pods.length (podCs s.pods) ∧ SlV w B 2 E1 s.mnts.length (mntCs s.mnts) ∧ SlV w B 1 E2 s.devs.length (devCs s.devs) ∧ SlV w B 1 E3 s.lks.length (lkCs s.lks)
  bp : d.n0 ≤ maxLen ∧ d.n1 ≤ maxLen ∧ d.n2 ≤ maxLen ∧ d.n3 ≤ maxLen
  bs : s.pods.length ≤ maxLen ∧ s.mnts.length ≤ maxLen ∧ s.devs.length ≤ maxLen ∧ s.lks.length ≤ maxLen
theorem IsCmd.below {w w' : World} {B B' : Nat} {v : Value} {d : PlanD} {s : StD} {a b : Int} (h : IsCmd w B v d s a b) (hb : Below B' w w') (hB : B ≤ B') : IsCmd w' B v d s a b := by
  obtain ⟨⟨A0, A1, A2, A3, c0, c1, c2, c3, E0, E1, E2, E3, k0, k1, k2, k3, hv, ⟨p0, p1, p2, p3⟩, q0, q1, q2, q3⟩, hp, hs⟩ := h
  exact ⟨⟨A0, A1, A2, A3, c0, c1, c2, c3, E0, E1, E2, E3, k0, k1, k2, k3, hv, ⟨p0.below hb hB, p1.below hb hB, p2.below hb hB, p3.below hb hB⟩, q0.below hb hB, q1.below hb hB, q2.below hb hB, q3.below hb hB⟩, hp, hs⟩
theorem IsCmd.more {w : World} {B B' : Nat} {v : Value} {d : PlanD} {s : StD} {a b : Int} (h : IsCmd w B v d s a b) (hB : B ≤ B') : IsCmd w B' v d s a b := by
  obtain ⟨⟨A0, A1, A2, A3, c0, c1, c2, c3, E0, E1, E2, E3, k0, k1, k2, k3, hv, ⟨p0, p1, p2, p3⟩, q0, q1, q2, q3⟩, hp, hs⟩ := h
  exact ⟨⟨A0, A1, A2, A3, c0, c1, c2, c3, E0, E1, E2, E3, k0, k1, k2, k3, hv, ⟨p0.more hB, p1.more hB, p2.more hB, p3.more hB⟩, q0.more hB, q1.more hB, q2.more hB, q3.more hB⟩, hp, hs⟩
theorem IsCmd.go {w w' : World} {v : Value} {d : PlanD} {s : StD} {a b : Int} (h : IsCmd w w.heap.size v d s a b) (hb : Below w.heap.size w w') : IsCmd w' w'.heap.size v d s a b := (h.below hb (Nat.le_refl _)).more hb.size

/-- What is tried: records, or a reason. -/
def errV (K O P S B : Addr) : Option Why → Value
  | none => .nilIface
  | some y => whyV K O P S B y
def TryA (K O P S B : Addr) (w : World) (x : List RecD × Option Why) (e : Ending) (w' : World) : Prop :=
  ∃ v, e = .returned (.tuple #[v, errV K O P S B x.2]) ∧ OR w' w.heap.size v x.1 ∧ Below w.heap.size w w'
def no_ (y : Why) : List RecD × Option Why := ([], some y)
def one_ (k a b : Int) : List RecD × Option Why := ([⟨k, a, b⟩], none)
theorem TryA.no {K O P S B : Addr} {w w' : World} (y : Why) (h : Below w.heap.size w w') : TryA K O P S B w (no_ y) (.returned (.tuple #[.slice none 0 0, whyV K O P S B y])) w' := ⟨_, rfl, OR.nil_ _ _, h⟩
theorem TryA.one {K O P S B : Addr} {w w' : World} (k a b : Int) (h : Below w.heap.size w w') : TryA K O P S B w (one_ k a b) (.returned (.tuple #[.slice (some ⟨w'.heap.size, 0, none⟩) 1 1, .nilIface])) (w'.alloc (.cells #[.int .i64 k, .int .i64 a, .int .i64 b] 52)) :=
  ⟨_, rfl, OR.first h.size k a b, h.alloc h.size _⟩

def phaseT (s : StD) (f t : Int) : List RecD × Option Why := if s.ph = f then one_ 1 t 0 else no_ .phase
def evictT (d : PlanD) (s : StD) (a : Int) : List RecD × Option Why :=
  if inB a 0 (d.n0 - 1) = false then no_ (.missing a) else if s.ph ≠ 2 then no_ .phase else if (podAt s a.toNat).1 ≠ 0 then no_ .state else if mayEvictB d s a = false then no_ .budget else one_ 2 a 6
def shutT (d : PlanD) (s : StD) : List RecD × Option Why := if s.ph = 1 ∨ s.ph = 2 then ((shutD d s).1, none) else no_ .phase
def cancelT (s : StD) : List RecD × Option Why := if s.ph = 1 ∨ s.ph = 2 then one_ 1 0 0 else no_ .phase
def lockT (s : StD) (a : Int) : List RecD × Option Why := if inB a 0 7 = false then no_ (.missing a) else if 3 ≤ s.ph then no_ .phase else if s.lks.contains a then no_ .state else one_ 6 a 0
def unlockT (s : StD) (a : Int) : List RecD × Option Why := if inB a 0 7 = false then no_ (.missing a) else if s.lks.contains a = false then no_ .state else one_ 7 a 0
def toldT (d : PlanD) (s : StD) (f : Int → Int) (a : Int) : List RecD × Option Why := if inB a 0 (d.n0 - 1) = false then no_ (.missing a) else if f (podAt s a.toNat).1 = -1 then no_ .state else one_ 2 a (f (podAt s a.toNat).1)
def busyT (d : PlanD) (s : StD) (a b : Int) : List RecD × Option Why :=
  if inB a 0 (d.n2 - 1) = false then no_ (.missing a) else if inB b 1 5 = false then no_ .often else if 4 ≤ s.ph then no_ .phase else if (mntAt s a.toNat).1 = false ∨ (mntAt s a.toNat).2 ≠ 0 then no_ .state else one_ 3 a b
def tryD (d : PlanD) (s : StD) (k a b : Int) : List RecD × Option Why :=
  if k = 1 then phaseT s 0 1 else if k = 2 then phaseT s 1 2 else if k = 3 then evictT d s a else if k = 4 then shutT d s else if k = 5 then cancelT s else if k = 6 then lockT s a else if k = 7 then unlockT s a
  else if k = 8 then toldT d s hookD a else if k = 9 then toldT d s exitD a else if k = 10 then busyT d s a b else no_ .kind
/-- The records and the code of what is tried. -/
def codeD : List RecD × Option Why → List RecD × Int
  | (l, none) => (l, 0)
  | (_, some y) => ([], codeW y)

set_option maxRecDepth 4000 in
set_option maxHeartbeats 1000000 in
theorem cordon_any (K O P S B : Addr) (v : Value) (d : PlanD) (s : StD) (a b : Int) (w : World) (h : IsCmd w w.heap.size v d s a b) (hE : Errs w K O P S B) :
    Calls Tryz.prog 173 #[v] w (TryA K O P S B w (phaseT s 0 1)) := by
  obtain ⟨⟨A0, A1, A2, A3, c0, c1, c2, c3, E0, E1, E2, E3, k0, k1, k2, k3, rfl, ⟨p0, p1, p2, p3⟩, q0, q1, q2, q3⟩, ⟨b0, b1, b2, b3⟩, ⟨f0, f1, f2, f3⟩⟩ := h
  have X := Own.box w (cmdC A0 A1 A2 A3 d.n0 c0 d.n1 c1 d.n2 c2 d.n3 c3 d.l d.p d.t E0 E1 E2 E3 s.pods.length k0 s.mnts.length k1 s.devs.length k2 s.lks.length k3 s.ph s.co s.ck s.bo s.ba s.lb s.gd s.pr a b) 113
  have HP := Lib.hid (((show IsPlan w w.heap.size (planV A0 A1 A2 A3 d.n0 c0 d.n1 c1 d.n2 c2 d.n3 c3 d.l d.p d.t) d from ⟨⟨A0, A1, A2, A3, c0, c1, c2, c3, rfl, p0, p1, p2, p3⟩, b0, b1, b2, b3⟩).below X.K (Nat.le_refl _)).more X.K.size)
  have HS := Lib.hid (((show IsSt w w.heap.size (.agg (stC E0 E1 E2 E3 s.pods.length k0 s.mnts.length k1 s.devs.length k2 s.lks.length k3 s.ph s.co s.ck s.bo s.ba s.lb s.gd s.pr)) s from ⟨⟨E0, E1, E2, E3, k0, k1, k2, k3, rfl, q0, q1, q2, q3⟩, f0, f1, f2, f3⟩).below X.K (Nat.le_refl _)).more X.K.size)
  have Q0 := Lib.hid ((q0.below X.K (Nat.le_refl _)).more X.K.size)
  have Q1 := Lib.hid ((q1.below X.K (Nat.le_refl _)).more X.K.size)
  have Q3 := Lib.hid ((q3.below X.K (Nat.le_refl _)).more X.K.size)
  have F3 := Lib.hid f3
  unfold maxLen at b0 b1 b2 b3 f0 f1 f2 f3
  clear p0 p1 p2 p3 q0 q1 q2 q3
  have HE := Lib.hid (hE.below X.K)
  clear hE
  cases h1 : (s.ph != 0)
  · have H1 : Hid (s.ph = 0) := Lib.hid (by simpa using h1)
    go_enter Tryz.func173, Tryz.ntmps173
    go_upto_region 1 with fail
    generalize w.alloc (.cells (cmdC A0 A1 A2 A3 d.n0 c0 d.n1 c1 d.n2 c2 d.n3 c3 d.l d.p d.t E0 E1 E2 E3 s.pods.length k0 s.mnts.length k1 s.devs.length k2 s.lks.length k3 s.ph s.co s.ck s.bo s.ba s.lb s.gd s.pr a b) 113) = W at X HP HS Q0 Q1 Q3 HE ⊢
    have hC := X.C
    go_wp2
    all_goals (go_ret2; rw [phaseT, if_pos H1.out]; exact TryA.one 1 1 0 X.K)
  · have H1 : Hid (¬ s.ph = 0) := Lib.hid (by simpa using h1)
    go_enter Tryz.func173, Tryz.ntmps173
    go_upto_region 1 with fail
    generalize w.alloc (.cells (cmdC A0 A1 A2 A3 d.n0 c0 d.n1 c1 d.n2 c2 d.n3 c3 d.l d.p d.t E0 E1 E2 E3 s.pods.length k0 s.mnts.length k1 s.devs.length k2 s.lks.length k3 s.ph s.co s.ck s.bo s.ba s.lb s.gd s.pr a b) 113) = W at X HP HS Q0 Q1 Q3 HE ⊢
    have hC := X.C
    have hg := HE.out.p.1
    go_wp2_with fail
    go_quiet (fail)
    go_wp2
    all_goals (go_ret2; rw [phaseT, if_neg H1.out]; exact TryA.no .phase (below_drewN X.K _))

set_option maxRecDepth 4000 in
set_option maxHeartbeats 1000000 in
theorem drain_any (K O P S B : Addr) (v : Value) (d : PlanD) (s : StD) (a b : Int) (w : World) (h : IsCmd w w.heap.size v d s a b) (hE : Errs w K O P S B) :
    Calls Tryz.prog 174 #[v] w (TryA K O P S B w (phaseT s 1 2)) := by
  obtain ⟨⟨A0, A1, A2, A3, c0, c1, c2, c3, E0, E1, E2, E3, k0, k1, k2, k3, rfl, ⟨p0, p1, p2, p3⟩, q0, q1, q2, q3⟩, ⟨b0, b1, b2, b3⟩, ⟨f0, f1, f2, f3⟩⟩ := h
  have X := Own.box w (cmdC A0 A1 A2 A3 d.n0 c0 d.n1 c1 d.n2 c2 d.n3 c3 d.l d.p d.t E0 E1 E2 E3 s.pods.length k0 s.mnts.length k1 s.devs.length k2 s.lks.length k3 s.ph s.co s.ck s.bo s.ba s.lb s.gd s.pr a b) 113
  have HP := Lib.hid (((show IsPlan w w.heap.size (planV A0 A1 A2 A3 d.n0 c0 d.n1 c1 d.n2 c2 d.n3 c3 d.l d.p d.t) d from ⟨⟨A0, A1, A2, A3, c0, c1, c2, c3, rfl, p0, p1, p2, p3⟩, b0, b1, b2, b3⟩).below X.K (Nat.le_refl _)).more X.K.size)
  have HS := Lib.hid (((show IsSt w w.heap.size (.agg (stC E0 E1 E2 E3 s.pods.length k0 s.mnts.length k1 s.devs.length k2 s.lks.length k3 s.ph s.co s.ck s.bo s.ba s.lb s.gd s.pr)) s from ⟨⟨E0, E1, E2, E3, k0, k1, k2, k3, rfl, q0, q1, q2, q3⟩, f0, f1, f2, f3⟩).below X.K (Nat.le_refl _)).more X.K.size)
  have Q0 := Lib.hid ((q0.below X.K (Nat.le_refl _)).more X.K.size)
  have Q1 := Lib.hid ((q1.below X.K (Nat.le_refl _)).more X.K.size)
  have Q3 := Lib.hid ((q3.below X.K (Nat.le_refl _)).more X.K.size)
  have F3 := Lib.hid f3
  unfold maxLen at b0 b1 b2 b3 f0 f1 f2 f3
  clear p0 p1 p2 p3 q0 q1 q2 q3
  have HE := Lib.hid (hE.below X.K)
  clear hE
  cases h1 : (s.ph != 1)
  · have H1 : Hid (s.ph = 1) := Lib.hid (by simpa using h1)
    go_enter Tryz.func174, Tryz.ntmps174
    go_upto_region 1 with fail
    generalize w.alloc (.cells (cmdC A0 A1 A2 A3 d.n0 c0 d.n1 c1 d.n2 c2 d.n3 c3 d.l d.p d.t E0 E1 E2 E3 s.pods.length k0 s.mnts.length k1 s.devs.length k2 s.lks.length k3 s.ph s.co s.ck s.bo s.ba s.lb s.gd s.pr a b) 113) = W at X HP HS Q0 Q1 Q3 HE ⊢
    have hC := X.C
    go_wp2
    all_goals (go_ret2; rw [phaseT, if_pos H1.out]; exact TryA.one 1 2 0 X.K)
  · have H1 : Hid (¬ s.ph = 1) := Lib.hid (by simpa using h1)
    go_enter Tryz.func174, Tryz.ntmps174
    go_upto_region 1 with fail
    generalize w.alloc (.cells (cmdC A0 A1 A2 A3 d.n0 c0 d.n1 c1 d.n2 c2 d.n3 c3 d.l d.p d.t E0 E1 E2 E3 s.pods.length k0 s.mnts.length k1 s.devs.length k2 s.lks.length k3 s.ph s.co s.ck s.bo s.ba s.lb s.gd s.pr a b) 113) = W at X HP HS Q0 Q1 Q3 HE ⊢
    have hC := X.C
    have hg := HE.out.p.1
    go_wp2_with fail
    go_quiet (fail)
    go_wp2
    all_goals (go_ret2; rw [phaseT, if_neg H1.out]; exact TryA.no .phase (below_drewN X.K _))

set_option maxRecDepth 4000 in
set_option maxHeartbeats 1000000 in
theorem awaits_any (v : Value) (d : PlanD) (s : StD) (a b : Int) (w : World) (h : IsCmd w w.heap.size v d s a b) :
    Calls Tryz.prog 215 #[v] w fun e w' => e = .returned (.bool (decide (s.ph = 1 ∨ s.ph = 2))) ∧ Below w.heap.size w w' := by
  obtain ⟨⟨A0, A1, A2, A3, c0, c1, c2, c3, E0, E1, E2, E3, k0, k1, k2, k3, rfl, ⟨p0, p1, p2, p3⟩, q0, q1, q2, q3⟩, ⟨b0, b1, b2, b3⟩, ⟨f0, f1, f2, f3⟩⟩ := h
  have X := Own.box w (cmdC A0 A1 A2 A3 d.n0 c0 d.n1 c1 d.n2 c2 d.n3 c3 d.l d.p d.t E0 E1 E2 E3 s.pods.length k0 s.mnts.length k1 s.devs.length k2 s.lks.length k3 s.ph s.co s.ck s.bo s.ba s.lb s.gd s.pr a b) 113
  have HP := Lib.hid (((show IsPlan w w.heap.size (planV A0 A1 A2 A3 d.n0 c0 d.n1 c1 d.n2 c2 d.n3 c3 d.l d.p d.t) d from ⟨⟨A0, A1, A2, A3, c0, c1, c2, c3, rfl, p0, p1, p2, p3⟩, b0, b1, b2, b3⟩).below X.K (Nat.le_refl _)).more X.K.size)
  have HS := Lib.hid (((show IsSt w w.heap.size (.agg (stC E0 E1 E2 E3 s.pods.length k0 s.mnts.length k1 s.devs.length k2 s.lks.length k3 s.ph s.co s.ck s.bo s.ba s.lb s.gd s.pr)) s from ⟨⟨E0, E1, E2, E3, k0, k1, k2, k3, rfl, q0, q1, q2, q3⟩, f0, f1, f2, f3⟩).below X.K (Nat.le_refl _)).more X.K.size)
  have Q0 := Lib.hid ((q0.below X.K (Nat.le_refl _)).more X.K.size)
  have Q1 := Lib.hid ((q1.below X.K (Nat.le_refl _)).more X.K.size)
  have Q3 := Lib.hid ((q3.below X.K (Nat.le_refl _)).more X.K.size)
  have F3 := Lib.hid f3
  unfold maxLen at b0 b1 b2 b3 f0 f1 f2 f3
  clear p0 p1 p2 p3 q0 q1 q2 q3
  cases h1 : (s.ph == 1)
  · have H1 : Hid (¬ s.ph = 1) := Lib.hid (by simpa using h1)
    cases h2 : (s.ph == 2)
    · have H2 : Hid (¬ s.ph = 2) := Lib.hid (by simpa using h2)
      go_enter Tryz.func215, Tryz.ntmps215
      go_upto_region 1 with fail
      generalize w.alloc (.cells (cmdC A0 A1 A2 A3 d.n0 c0 d.n1 c1 d.n2 c2 d.n3 c3 d.l d.p d.t E0 E1 E2 E3 s.pods.length k0 s.mnts.length k1 s.devs.length k2 s.lks.length k3 s.ph s.co s.ck s.bo s.ba s.lb s.gd s.pr a b) 113) = W at X HP HS Q0 Q1 Q3 ⊢
      have hC := X.C
      go_wp2
      all_goals (go_ret; exact ⟨ret_bool (by simp [H1.out, H2.out]), X.K⟩)
    · have H2 : Hid (s.ph = 2) := Lib.hid (by simpa using h2)
      go_enter Tryz.func215, Tryz.ntmps215
      go_upto_region 1 with fail
      generalize w.alloc (.cells (cmdC A0 A1 A2 A3 d.n0 c0 d.n1 c1 d.n2 c2 d.n3 c3 d.l d.p d.t E0 E1 E2 E3 s.pods.length k0 s.mnts.length k1 s.devs.length k2 s.lks.length k3 s.ph s.co s.ck s.bo s.ba s.lb s.gd s.pr a b) 113) = W at X HP HS Q0 Q1 Q3 ⊢
      have hC := X.C
      go_wp2
      all_goals (go_ret; exact ⟨ret_bool (by simp [H2.out]), X.K⟩)
  · have H1 : Hid (s.ph = 1) := Lib.hid (by simpa using h1)
    go_enter Tryz.func215, Tryz.ntmps215
    go_upto_region 1 with fail
    generalize w.alloc (.cells (cmdC A0 A1 A2 A3 d.n0 c0 d.n1 c1 d.n2 c2 d.n3 c3 d.l d.p d.t E0 E1 E2 E3 s.pods.length k0 s.mnts.length k1 s.devs.length k2 s.lks.length k3 s.ph s.co s.ck s.bo s.ba s.lb s.gd s.pr a b) 113) = W at X HP HS Q0 Q1 Q3 ⊢
    have hC := X.C
    go_wp2
    all_goals (go_ret; exact ⟨ret_bool (by simp [H1.out]), X.K⟩)

set_option maxRecDepth 4000 in
set_option maxHeartbeats 2000000 in
theorem lock_any (K O P S B : Addr) (v : Value) (d : PlanD) (s : StD) (a b : Int) (w : World) (h : IsCmd w w.heap.size v d s a b) (hE : Errs w K O P S B) :
    Calls Tryz.prog 178 #[v] w (TryA K O P S B w (lockT s a)) := by
  obtain ⟨⟨A0, A1, A2, A3, c0, c1, c2, c3, E0, E1, E2, E3, k0, k1, k2, k3, rfl, ⟨p0, p1, p2, p3⟩, q0, q1, q2, q3⟩, ⟨b0, b1, b2, b3⟩, ⟨f0, f1, f2, f3⟩⟩ := h
  have X := Own.box w (cmdC A0 A1 A2 A3 d.n0 c0 d.n1 c1 d.n2 c2 d.n3 c3 d.l d.p d.t E0 E1 E2 E3 s.pods.length k0 s.mnts.length k1 s.devs.length k2 s.lks.length k3 s.ph s.co s.ck s.bo s.ba s.lb s.gd s.pr a b) 113
  have HP := Lib.hid (((show IsPlan w w.heap.size (planV A0 A1 A2 A3 d.n0 c0 d.n1 c1 d.n2 c2 d.n3 c3 d.l d.p d.t) d from ⟨⟨A0, A1, A2, A3, c0, c1, c2, c3, rfl, p0, p1, p2, p3⟩, b0, b1, b2, b3⟩).below X.K (Nat.le_refl _)).more X.K.size)
  have HS := Lib.hid (((show IsSt w w.heap.size (.agg (stC E0 E1 E2 E3 s.pods.length k0 s.mnts.length k1 s.devs.length k2 s.lks.length k3 s.ph s.co s.ck s.bo s.ba s.lb s.gd s.pr)) s from ⟨⟨E0, E1, E2, E3, k0, k1, k2, k3, rfl, q0, q1, q2, q3⟩, f0, f1, f2, f3⟩).below X.K (Nat.le_refl _)).more X.K.size)
  have Q0 := Lib.hid ((q0.below X.K (Nat.le_refl _)).more X.K.size)
  have Q1 := Lib.hid ((q1.below X.K (Nat.le_refl _)).more X.K.size)
  have Q3 := Lib.hid ((q3.below X.K (Nat.le_refl _)).more X.K.size)
  have F3 := Lib.hid f3
  unfold maxLen at b0 b1 b2 b3 f0 f1 f2 f3
  clear p0 p1 p2 p3 q0 q1 q2 q3
  have HE := Lib.hid (hE.below X.K)
  clear hE
  go_enter Tryz.func178, Tryz.ntmps178
  go_upto_region 1 with fail
  generalize w.alloc (.cells (cmdC A0 A1 A2 A3 d.n0 c0 d.n1 c1 d.n2 c2 d.n3 c3 d.l d.p d.t E0 E1 E2 E3 s.pods.length k0 s.mnts.length k1 s.devs.length k2 s.lks.length k3 s.ph s.co s.ck s.bo s.ba s.lb s.gd s.pr a b) 113) = W at X HP HS Q0 Q1 Q3 HE ⊢
  have hC := X.C
  go_wp2_with fail
  refine (isIndex_any _ _ _).mono ?_
  rintro e w2 ⟨rfl, rfl⟩
  rw [show ((8 : Int) - 1) = 7 from rfl]
  have hg := HE.out.p.1
  have hg1 := HE.out.s.1
  cases hin : inB a 0 7
  · have HIN := Lib.hid hin
    clear hin
    go_wp2_with fail
    go_quiet (fail)
    go_wp2
    all_goals (go_ret2; rw [lockT, if_pos HIN.out]; exact TryA.no (.missing a) (below_drewN X.K _))
  · have HIN : Hid (¬ inB a 0 7 = false) := Lib.hid (by rw [hin]; decide)
    clear hin
    by_cases h3 : 3 ≤ s.ph
    · have H3 := Lib.hid h3
      go_wp2_with fail
      go_quiet (fail)
      go_wp2
      all_goals (go_ret2; rw [lockT, if_neg HIN.out, if_pos H3.out]; exact TryA.no .phase (below_drewN X.K _))
    · have H3 := Lib.hid h3
      go_wp2_with fail
      refine (contains_any s.lks E3 k3 a _ Q3.out F3.out).mono ?_
      rintro e w3 ⟨rfl, rfl⟩
      cases hc : s.lks.contains a
      · have HC := Lib.hid hc
        clear hc
        go_wp2
        all_goals (go_ret2; rw [lockT, if_neg HIN.out, if_neg (by have := H3.out; omega), if_neg (by rw [HC.out]; decide)]; exact TryA.one 6 a 0 X.K)
      · have HC := Lib.hid hc
        clear hc
        go_wp2_with fail
        go_quiet (fail)
        go_wp2
        all_goals (go_ret2; rw [lockT, if_neg HIN.out, if_neg (by have := H3.out; omega), if_pos HC.out]; exact TryA.no .state (below_drewN X.K _))

set_option maxRecDepth 4000 in
set_option maxHeartbeats 2000000 in
theorem unlock_any (K O P S B : Addr) (v : Value) (d : PlanD) (s : StD) (a b : Int) (w : World) (h : IsCmd w w.heap.size v d s a b) (hE : Errs w K O P S B) :
    Calls Tryz.prog 179 #[v] w (TryA K O P S B w (unlockT s a)) := by
  obtain ⟨⟨A0, A1, A2, A3, c0, c1, c2, c3, E0, E1, E2, E3, k0, k1, k2, k3, rfl, ⟨p0, p1, p2, p3⟩, q0, q1, q2, q3⟩, ⟨b0, b1, b2, b3⟩, ⟨f0, f1, f2, f3⟩⟩ := h
  have X := Own.box w (cmdC A0 A1 A2 A3 d.n0 c0 d.n1 c1 d.n2 c2 d.n3 c3 d.l d.p d.t E0 E1 E2 E3 s.pods.length k0 s.mnts.length k1 s.devs.length k2 s.lks.length k3 s.ph s.co s.ck s.bo s.ba s.lb s.gd s.pr a b) 113
  have HP := Lib.hid (((show IsPlan w w.heap.size (planV A0 A1 A2 A3 d.n0 c0 d.n1 c1 d.n2 c2 d.n3 c3 d.l d.p d.t) d from ⟨⟨A0, A1, A2, A3, c0, c1, c2, c3, rfl, p0, p1, p2, p3⟩, b0, b1, b2, b3⟩).below X.K (Nat.le_refl _)).more X.K.size)
  have HS := Lib.hid (((show IsSt w w.heap.size (.agg (stC E0 E1 E2 E3 s.pods.length k0 s.mnts.length k1 s.devs.length k2 s.lks.length k3 s.ph s.co s.ck s.bo s.ba s.lb s.gd s.pr)) s from ⟨⟨E0, E1, E2, E3, k0, k1, k2, k3, rfl, q0, q1, q2, q3⟩, f0, f1, f2, f3⟩).below X.K (Nat.le_refl _)).more X.K.size)
  have Q0 := Lib.hid ((q0.below X.K (Nat.le_refl _)).more X.K.size)
  have Q1 := Lib.hid ((q1.below X.K (Nat.le_refl _)).more X.K.size)
  have Q3 := Lib.hid ((q3.below X.K (Nat.le_refl _)).more X.K.size)
  have F3 := Lib.hid f3
  unfold maxLen at b0 b1 b2 b3 f0 f1 f2 f3
  clear p0 p1 p2 p3 q0 q1 q2 q3
  have HE := Lib.hid (hE.below X.K)
  clear hE
  go_enter Tryz.func179, Tryz.ntmps179
  go_upto_region 1 with fail
  generalize w.alloc (.cells (cmdC A0 A1 A2 A3 d.n0 c0 d.n1 c1 d.n2 c2 d.n3 c3 d.l d.p d.t E0 E1 E2 E3 s.pods.length k0 s.mnts.length k1 s.devs.length k2 s.lks.length k3 s.ph s.co s.ck s.bo s.ba s.lb s.gd s.pr a b) 113) = W at X HP HS Q0 Q1 Q3 HE ⊢
  have hC := X.C
  go_wp2_with fail
  refine (isIndex_any _ _ _).mono ?_
  rintro e w2 ⟨rfl, rfl⟩
  rw [show ((8 : Int) - 1) = 7 from rfl]
  have hg := HE.out.p.1
  have hg1 := HE.out.s.1
  cases hin : inB a 0 7
  · have HIN := Lib.hid hin
    clear hin
    go_wp2_with fail
    go_quiet (fail)
    go_wp2
    all_goals (go_ret2; rw [unlockT, if_pos HIN.out]; exact TryA.no (.missing a) (below_drewN X.K _))
  · have HIN : Hid (¬ inB a 0 7 = false) := Lib.hid (by rw [hin]; decide)
    clear hin
    go_wp2_with fail
    refine (contains_any s.lks E3 k3 a _ Q3.out F3.out).mono ?_
    rintro e w3 ⟨rfl, rfl⟩
    cases hc : s.lks.contains a
    · have HC := Lib.hid hc
      clear hc
      go_wp2_with fail
      go_quiet (fail)
      go_wp2
      all_goals (go_ret2; rw [unlockT, if_neg HIN.out, if_pos HC.out]; exact TryA.no .state (below_drewN X.K _))
    · have HC := Lib.hid hc
      clear hc
      go_wp2
      all_goals (go_ret2; rw [unlockT, if_neg HIN.out, if_neg (by rw [HC.out]; decide)]; exact TryA.one 7 a 0 X.K)
end Go.Proofs.YtdkmhaghnfhajaaGreatDoor
/- Jf -/
set_option linter.unusedVariables false
namespace Go.Proofs.YtdkmhaghnfhajaaGreatDoor
open Go.RowKit

set_option maxRecDepth 8000 in
set_option maxHeartbeats 4000000 in
theorem evict_any (K O P S B : Addr) (v : Value) (d : PlanD) (s : StD) (a b : Int) (w : World) (h : IsCmd w w.heap.size v d s a b) (hok : StOk d s) (hE : Errs w K O P S B) :
    Calls Tryz.prog 175 #[v] w (TryA K O P S B w (evictT d s a)) := by
  have OK := Lib.hid hok
  clear hok
  obtain ⟨⟨A0, A1, A2, A3, c0, c1, c2, c3, E0, E1, E2, E3, k0, k1, k2, k3, rfl, ⟨p0, p1, p2, p3⟩, q0, q1, q2, q3⟩, ⟨b0, b1, b2, b3⟩, ⟨f0, f1, f2, f3⟩⟩ := h
  have X := Own.box w (cmdC A0 A1 A2 A3 d.n0 c0 d.n1 c1 d.n2 c2 d.n3 c3 d.l d.p d.t E0 E1 E2 E3 s.pods.length k0 s.mnts.length k1 s.devs.length k2 s.lks.length k3 s.ph s.co s.ck s.bo s.ba s.lb s.gd s.pr a b) 113
  have HP := Lib.hid (((show IsPlan w w.heap.size (planV A0 A1 A2 A3 d.n0 c0 d.n1 c1 d.n2 c2 d.n3 c3 d.l d.p d.t) d from ⟨⟨A0, A1, A2, A3, c0, c1, c2, c3, rfl, p0, p1, p2, p3⟩, b0, b1, b2, b3⟩).below X.K (Nat.le_refl _)).more X.K.size)
  have HS := Lib.hid (((show IsSt w w.heap.size (.agg (stC E0 E1 E2 E3 s.pods.length k0 s.mnts.length k1 s.devs.length k2 s.lks.length k3 s.ph s.co s.ck s.bo s.ba s.lb s.gd s.pr)) s from ⟨⟨E0, E1, E2, E3, k0, k1, k2, k3, rfl, q0, q1, q2, q3⟩, f0, f1, f2, f3⟩).below X.K (Nat.le_refl _)).more X.K.size)
  have Q0 := Lib.hid ((q0.below X.K (Nat.le_refl _)).more X.K.size)
  have Q1 := Lib.hid ((q1.below X.K (Nat.le_refl _)).more X.K.size)
  have Q3 := Lib.hid ((q3.below X.K (Nat.le_refl _)).more X.K.size)
  have F3 := Lib.hid f3
  unfold maxLen at b0 b1 b2 b3 f0 f1 f2 f3
  clear p0 p1 p2 p3 q0 q1 q2 q3
  have HE := Lib.hid (hE.below X.K)
  clear hE
  have HA : Hid ((evictT d s a) = (evictT d s a)) := Lib.hid rfl
  obtain ⟨ans, hans⟩ : ∃ ans, (evictT d s a) = ans := ⟨_, rfl⟩
  rw [hans]
  have HANS := Lib.hid hans
  clear hans HA
  go_enter Tryz.func175, Tryz.ntmps175
  go_upto_region 1 with fail
  generalize w.alloc (.cells (cmdC A0 A1 A2 A3 d.n0 c0 d.n1 c1 d.n2 c2 d.n3 c3 d.l d.p d.t E0 E1 E2 E3 s.pods.length k0 s.mnts.length k1 s.devs.length k2 s.lks.length k3 s.ph s.co s.ck s.bo s.ba s.lb s.gd s.pr a b) 113) = W at X HP HS Q0 Q1 Q3 HE ⊢
  have hC := X.C
  have hg := HE.out.p.1
  have hg1 := HE.out.s.1
  have hg2 := HE.out.b.1
  go_wp2_with fail
  refine (isIndex_any _ _ _).mono ?_
  rintro e w2 ⟨rfl, rfl⟩
  cases hin : inB a 0 (d.n0 - 1)
  · have HIN := Lib.hid hin
    clear hin
    go_wp2_with fail
    go_quiet (fail)
    go_wp2
    all_goals (go_ret2; rw [← HANS.out, evictT, if_pos HIN.out]; exact TryA.no (.missing a) (below_drewN X.K _))
  · have HIN : Hid (¬ inB a 0 (d.n0 - 1) = false) := Lib.hid (by rw [hin]; decide)
    obtain ⟨i, rfl, hi⟩ := index_nat (a := a) (n := d.n0) (by rw [hin]; decide)
    clear hin
    have hil : i < s.pods.length := by have := OK.out.np; omega
    cases hph : (s.ph != 2)
    case true =>
      have HPH : Hid (s.ph ≠ 2) := Lib.hid (by simpa using hph)
      go_wp2_with fail
      go_quiet (fail)
      go_wp2
      all_goals (go_ret2; rw [← HANS.out, evictT, if_neg HIN.out, if_pos HPH.out]; exact TryA.no .phase (below_drewN X.K _))
    case false =>
      have HPH : Hid (¬ s.ph ≠ 2) := Lib.hid (by simpa using hph)
      obtain ⟨b', off', rfl, hb', hc⟩ := Q0.out.cell hil
      have p0 := (hc 0 (by decide)).trans (podCs_at s.pods (i := i) hil).1
      rw [Nat.add_zero] at p0
      clear hc
      have HPA : Hid (podA s.pods i = podAt s (i : Int).toNat) := Lib.hid rfl
      generalize podA s.pods i = pa at p0 HPA
      cases hst : (pa.1 != 0)
      case true =>
        have HST : Hid ((podAt s (i : Int).toNat).1 ≠ 0) := Lib.hid (by rw [← HPA.out]; simpa using hst)
        go_wp2_with fail
        go_quiet (fail)
        go_wp2
        all_goals (go_ret2; rw [← HANS.out, evictT, if_neg HIN.out, if_neg HPH.out, if_pos HST.out]; exact TryA.no .state (below_drewN X.K _))
      case false =>
        have HST : Hid (¬ (podAt s (i : Int).toNat).1 ≠ 0) := Lib.hid (by rw [← HPA.out]; simpa using hst)
        go_wp2_with fail
        refine (implMayEvict_any _ _ d s i _ HP.out HS.out).mono ?_
        rintro e w3 ⟨rfl, hb3⟩
        rw [show stOkB d s = true from stOkB_iff.2 OK.out, Bool.true_and]
        have X3 := X.step hb3
        have HE3 := Lib.hid (HE.out.below hb3)
        have hC := X3.C
        have hg := HE3.out.p.1
        have hg1 := HE3.out.s.1
        have hg2 := HE3.out.b.1
        cases hme : mayEvictB d s i
        · have HME := Lib.hid hme
          clear hme
          go_wp2_with fail
          go_quiet (fail)
          go_wp2
          all_goals (go_ret2; rw [← HANS.out, evictT, if_neg HIN.out, if_neg HPH.out, if_neg HST.out, if_pos HME.out]; exact TryA.no .budget (below_drewN X3.K _))
        · have HME : Hid (¬ mayEvictB d s i = false) := Lib.hid (by rw [hme]; decide)
          clear hme
          go_wp2
          all_goals (go_ret2; rw [← HANS.out, evictT, if_neg HIN.out, if_neg HPH.out, if_neg HST.out, if_neg HME.out]; exact TryA.one 2 i 6 X3.K)

set_option maxRecDepth 8000 in
set_option maxHeartbeats 4000000 in
theorem hook_any (K O P S B : Addr) (v : Value) (d : PlanD) (s : StD) (a b : Int) (w : World) (h : IsCmd w w.heap.size v d s a b) (hok : StOk d s) (hE : Errs w K O P S B) :
    Calls Tryz.prog 180 #[v, .func (.func 181) #[] #[]] w (TryA K O P S B w (toldT d s hookD a)) := by
  have OK := Lib.hid hok
  clear hok
  obtain ⟨⟨A0, A1, A2, A3, c0, c1, c2, c3, E0, E1, E2, E3, k0, k1, k2, k3, rfl, ⟨p0, p1, p2, p3⟩, q0, q1, q2, q3⟩, ⟨b0, b1, b2, b3⟩, ⟨f0, f1, f2, f3⟩⟩ := h
  have X := Own.box w (cmdC A0 A1 A2 A3 d.n0 c0 d.n1 c1 d.n2 c2 d.n3 c3 d.l d.p d.t E0 E1 E2 E3 s.pods.length k0 s.mnts.length k1 s.devs.length k2 s.lks.length k3 s.ph s.co s.ck s.bo s.ba s.lb s.gd s.pr a b) 113
  have HP := Lib.hid (((show IsPlan w w.heap.size (planV A0 A1 A2 A3 d.n0 c0 d.n1 c1 d.n2 c2 d.n3 c3 d.l d.p d.t) d from ⟨⟨A0, A1, A2, A3, c0, c1, c2, c3, rfl, p0, p1, p2, p3⟩, b0, b1, b2, b3⟩).below X.K (Nat.le_refl _)).more X.K.size)
  have HS := Lib.hid (((show IsSt w w.heap.size (.agg (stC E0 E1 E2 E3 s.pods.length k0 s.mnts.length k1 s.devs.length k2 s.lks.length k3 s.ph s.co s.ck s.bo s.ba s.lb s.gd s.pr)) s from ⟨⟨E0, E1, E2, E3, k0, k1, k2, k3, rfl, q0, q1, q2, q3⟩, f0, f1, f2, f3⟩).below X.K (Nat.le_refl _)).more X.K.size)
  have Q0 := Lib.hid ((q0.below X.K (Nat.le_refl _)).more X.K.size)
  have Q1 := Lib.hid ((q1.below X.K (Nat.le_refl _)).more X.K.size)
  have Q3 := Lib.hid ((q3.below X.K (Nat.le_refl _)).more X.K.size)
  have F3 := Lib.hid f3
  unfold maxLen at b0 b1 b2 b3 f0 f1 f2 f3
  clear p0 p1 p2 p3 q0 q1 q2 q3
  have HE := Lib.hid (hE.below X.K)
  clear hE
  have HA : Hid ((toldT d s hookD a) = (toldT d s hookD a)) := Lib.hid rfl
  obtain ⟨ans, hans⟩ : ∃ ans, (toldT d s hookD a) = ans := ⟨_, rfl⟩
  rw [hans]
  have HANS := Lib.hid hans
  clear hans HA
  go_enter Tryz.func180, Tryz.ntmps180
  go_upto_region 1 with fail
  generalize w.alloc (.cells (cmdC A0 A1 A2 A3 d.n0 c0 d.n1 c1 d.n2 c2 d.n3 c3 d.l d.p d.t E0 E1 E2 E3 s.pods.length k0 s.mnts.length k1 s.devs.length k2 s.lks.length k3 s.ph s.co s.ck s.bo s.ba s.lb s.gd s.pr a b) 113) = W at X HP HS Q0 Q1 Q3 HE ⊢
  have hC := X.C
  have hg := HE.out.p.1
  have hg1 := HE.out.s.1
  go_wp2_with fail
  refine (isIndex_any _ _ _).mono ?_
  rintro e w2 ⟨rfl, rfl⟩
  cases hin : inB a 0 (d.n0 - 1)
  · have HIN := Lib.hid hin
    clear hin
    go_wp2_with fail
    go_quiet (fail)
    go_wp2
    all_goals (go_ret2; rw [← HANS.out, toldT, if_pos HIN.out]; exact TryA.no (.missing a) (below_drewN X.K _))
  · have HIN : Hid (¬ inB a 0 (d.n0 - 1) = false) := Lib.hid (by rw [hin]; decide)
    obtain ⟨i, rfl, hi⟩ := index_nat (a := a) (n := d.n0) (by rw [hin]; decide)
    clear hin
    have hil : i < s.pods.length := by have := OK.out.np; omega
    obtain ⟨b', off', rfl, hb', hc⟩ := Q0.out.cell hil
    have p0 := (hc 0 (by decide)).trans (podCs_at s.pods (i := i) hil).1
    rw [Nat.add_zero] at p0
    clear hc
    have HPA : Hid (podA s.pods i = podAt s (i : Int).toNat) := Lib.hid rfl
    generalize podA s.pods i = pa at p0 HPA
    go_wp2_with fail
    refine (implHook_any pa.1 _).mono ?_
    rintro e w3 ⟨rfl, rfl⟩
    have HX : Hid (hookD pa.1 = hookD (podAt s (i : Int).toNat).1) := Lib.hid (by rw [HPA.out])
    generalize hookD pa.1 = x at HX ⊢
    cases hx : (x == -1)
    · have HNX : Hid (¬ hookD (podAt s (i : Int).toNat).1 = -1) := Lib.hid (by rw [← HX.out]; simpa using hx)
      go_wp2
      all_goals (go_ret2; rw [← HANS.out, toldT, if_neg HIN.out, if_neg HNX.out, ← HX.out]; exact TryA.one 2 i x X.K)
    · have HNX : Hid (hookD (podAt s (i : Int).toNat).1 = -1) := Lib.hid (by rw [← HX.out]; simpa using hx)
      go_wp2_with fail
      go_quiet (fail)
      go_wp2
      all_goals (go_ret2; rw [← HANS.out, toldT, if_neg HIN.out, if_pos HNX.out]; exact TryA.no .state (below_drewN X.K _))

set_option maxRecDepth 8000 in
set_option maxHeartbeats 4000000 in
theorem exit_any (K O P S B : Addr) (v : Value) (d : PlanD) (s : StD) (a b : Int) (w : World) (h : IsCmd w w.heap.size v d s a b) (hok : StOk d s) (hE : Errs w K O P S B) :
    Calls Tryz.prog 180 #[v, .func (.func 182) #[] #[]] w (TryA K O P S B w (toldT d s exitD a)) := by
  have OK := Lib.hid hok
  clear hok
  obtain ⟨⟨A0, A1, A2, A3, c0, c1, c2, c3, E0, E1, E2, E3, k0, k1, k2, k3, rfl, ⟨p0, p1, p2, p3⟩, q0, q1, q2, q3⟩, ⟨b0, b1, b2, b3⟩, ⟨f0, f1, f2, f3⟩⟩ := h
  have X := Own.box w (cmdC A0 A1 A2 A3 d.n0 c0 d.n1 c1 d.n2 c2 d.n3 c3 d.l d.p d.t E0 E1 E2 E3 s.pods.length k0 s.mnts.length k1 s.devs.length k2 s.lks.length k3 s.ph s.co s.ck s.bo s.ba s.lb s.gd s.pr a b) 113
  have HP := Lib.hid (((show IsPlan w w.heap.size (planV A0 A1 A2 A3 d.n0 c0 d.n1 c1 d.n2 c2 d.n3 c3 d.l d.p d.t) d from ⟨⟨A0, A1, A2, A3, c0, c1, c2, c3, rfl, p0, p1, p2, p3⟩, b0, b1, b2, b3⟩).below X.K (Nat.le_refl _)).more X.K.size)
  have HS := Lib.hid (((show IsSt w w.heap.size (.agg (stC E0 E1 E2 E3 s.pods.length k0 s.mnts.length k1 s.devs.length k2 s.lks.length k3 s.ph s.co s.ck s.bo s.ba s.lb s.gd s.pr)) s from ⟨⟨E0, E1, E2, E3, k0, k1, k2, k3, rfl, q0, q1, q2, q3⟩, f0, f1, f2, f3⟩).below X.K (Nat.le_refl _)).more X.K.size)
  have Q0 := Lib.hid ((q0.below X.K (Nat.le_refl _)).more X.K.size)
  have Q1 := Lib.hid ((q1.below X.K (Nat.le_refl _)).more X.K.size)
  have Q3 := Lib.hid ((q3.below X.K (Nat.le_refl _)).more X.K.size)
  have F3 := Lib.hid f3
  unfold maxLen at b0 b1 b2 b3 f0 f1 f2 f3
  clear p0 p1 p2 p3 q0 q1 q2 q3
  have HE := Lib.hid (hE.below X.K)
  clear hE
  have HA : Hid ((toldT d s exitD a) = (toldT d s exitD a)) := Lib.hid rfl
  obtain ⟨ans, hans⟩ : ∃ ans, (toldT d s exitD a) = ans := ⟨_, rfl⟩
  rw [hans]
  have HANS := Lib.hid hans
  clear hans HA
  go_enter Tryz.func180, Tryz.ntmps180
  go_upto_region 1 with fail
  generalize w.alloc (.cells (cmdC A0 A1 A2 A3 d.n0 c0 d.n1 c1 d.n2 c2 d.n3 c3 d.l d.p d.t E0 E1 E2 E3 s.pods.length k0 s.mnts.length k1 s.devs.length k2 s.lks.length k3 s.ph s.co s.ck s.bo s.ba s.lb s.gd s.pr a b) 113) = W at X HP HS Q0 Q1 Q3 HE ⊢
  have hC := X.C
  have hg := HE.out.p.1
  have hg1 := HE.out.s.1
  go_wp2_with fail
  refine (isIndex_any _ _ _).mono ?_
  rintro e w2 ⟨rfl, rfl⟩
  cases hin : inB a 0 (d.n0 - 1)
  · have HIN := Lib.hid hin
    clear hin
    go_wp2_with fail
    go_quiet (fail)
    go_wp2
    all_goals (go_ret2; rw [← HANS.out, toldT, if_pos HIN.out]; exact TryA.no (.missing a) (below_drewN X.K _))
  · have HIN : Hid (¬ inB a 0 (d.n0 - 1) = false) := Lib.hid (by rw [hin]; decide)
    obtain ⟨i, rfl, hi⟩ := index_nat (a := a) (n := d.n0) (by rw [hin]; decide)
    clear hin
    have hil : i < s.pods.length := by have := OK.out.np; omega
    obtain ⟨b', off', rfl, hb', hc⟩ := Q0.out.cell hil
    have p0 := (hc 0 (by decide)).trans (podCs_at s.pods (i := i) hil).1
    rw [Nat.add_zero] at p0
    clear hc
    have HPA : Hid (podA s.pods i = podAt s (i : Int).toNat) := Lib.hid rfl
    generalize podA s.pods i = pa at p0 HPA
    go_wp2_with fail
    refine (implExit_any pa.1 _).mono ?_
    rintro e w3 ⟨rfl, rfl⟩
    have HX : Hid (exitD pa.1 = exitD (podAt s (i : Int).toNat).1) := Lib.hid (by rw [HPA.out])
    generalize exitD pa.1 = x at HX ⊢
    cases hx : (x == -1)
    · have HNX : Hid (¬ exitD (podAt s (i : Int).toNat).1 = -1) := Lib.hid (by rw [← HX.out]; simpa using hx)
      go_wp2
      all_goals (go_ret2; rw [← HANS.out, toldT, if_neg HIN.out, if_neg HNX.out, ← HX.out]; exact TryA.one 2 i x X.K)
    · have HNX : Hid (exitD (podAt s (i : Int).toNat).1 = -1) := Lib.hid (by rw [← HX.out]; simpa using hx)
      go_wp2_with fail
      go_quiet (fail)
      go_wp2
      all_goals (go_ret2; rw [← HANS.out, toldT, if_neg HIN.out, if_pos HNX.out]; exact TryA.no .state (below_drewN X.K _))

set_option maxRecDepth 8000 in
set_option maxHeartbeats 4000000 in
theorem busy_any (K O P S B : Addr) (v : Value) (d : PlanD) (s : StD) (a b : Int) (w : World) (h : IsCmd w w.heap.size v d s a b) (hok : StOk d s) (hE : Errs w K O P S B) :
    Calls Tryz.prog 183 #[v] w (TryA K O P S B w (busyT d s a b)) := by
  have OK := Lib.hid hok
  clear hok
  obtain ⟨⟨A0, A1, A2, A3, c0, c1, c2, c3, E0, E1, E2, E3, k0, k1, k2, k3, rfl, ⟨p0, p1, p2, p3⟩, q0, q1, q2, q3⟩, ⟨b0, b1, b2, b3⟩, ⟨f0, f1, f2, f3⟩⟩ := h
  have X := Own.box w (cmdC A0 A1 A2 A3 d.n0 c0 d.n1 c1 d.n2 c2 d.n3 c3 d.l d.p d.t E0 E1 E2 E3 s.pods.length k0 s.mnts.length k1 s.devs.length k2 s.lks.length k3 s.ph s.co s.ck s.bo s.ba s.lb s.gd s.pr a b) 113
  have HP := Lib.hid (((show IsPlan w w.heap.size (planV A0 A1 A2 A3 d.n0 c0 d.n1 c1 d.n2 c2 d.n3 c3 d.l d.p d.t) d from ⟨⟨A0, A1, A2, A3, c0, c1, c2, c3, rfl, p0, p1, p2, p3⟩, b0, b1, b2, b3⟩).below X.K (Nat.le_refl _)).more X.K.size)
  have HS := Lib.hid (((show IsSt w w.heap.size (.agg (stC E0 E1 E2 E3 s.pods.length k0 s.mnts.length k1 s.devs.length k2 s.lks.length k3 s.ph s.co s.ck s.bo s.ba s.lb s.gd s.pr)) s from ⟨⟨E0, E1, E2, E3, k0, k1, k2, k3, rfl, q0, q1, q2, q3⟩, f0, f1, f2, f3⟩).below X.K (Nat.le_refl _)).more X.K.size)
  have Q0 := Lib.hid ((q0.below X.K (Nat.le_refl _)).more X.K.size)
  have Q1 := Lib.hid ((q1.below X.K (Nat.le_refl _)).more X.K.size)
  have Q3 := Lib.hid ((q3.below X.K (Nat.le_refl _)).more X.K.size)
  have F3 := Lib.hid f3
  unfold maxLen at b0 b1 b2 b3 f0 f1 f2 f3
  clear p0 p1 p2 p3 q0 q1 q2 q3
  have HE := Lib.hid (hE.below X.K)
  clear hE
  have HA : Hid ((busyT d s a b) = (busyT d s a b)) := Lib.hid rfl
  obtain ⟨ans, hans⟩ : ∃ ans, (busyT d s a b) = ans := ⟨_, rfl⟩
  rw [hans]
  have HANS := Lib.hid hans
  clear hans HA
  go_enter Tryz.func183, Tryz.ntmps183
  go_upto_region 1 with fail
  generalize w.alloc (.cells (cmdC A0 A1 A2 A3 d.n0 c0 d.n1 c1 d.n2 c2 d.n3 c3 d.l d.p d.t E0 E1 E2 E3 s.pods.length k0 s.mnts.length k1 s.devs.length k2 s.lks.length k3 s.ph s.co s.ck s.bo s.ba s.lb s.gd s.pr a b) 113) = W at X HP HS Q0 Q1 Q3 HE ⊢
  have hC := X.C
  have hg := HE.out.p.1
  have hg1 := HE.out.s.1
  have hg2 := HE.out.o.1
  go_wp2_with fail
  refine (isIndex_any _ _ _).mono ?_
  rintro e w2 ⟨rfl, rfl⟩
  cases hin : inB a 0 (d.n2 - 1)
  · have HIN := Lib.hid hin
    clear hin
    go_wp2_with fail
    go_quiet (fail)
    go_wp2
    all_goals (go_ret2; rw [← HANS.out, busyT, if_pos HIN.out]; exact TryA.no (.missing a) (below_drewN X.K _))
  · have HIN : Hid (¬ inB a 0 (d.n2 - 1) = false) := Lib.hid (by rw [hin]; decide)
    obtain ⟨i, rfl, hi⟩ := index_nat (a := a) (n := d.n2) (by rw [hin]; decide)
    clear hin
    have hil : i < s.mnts.length := by have := OK.out.nm; omega
    go_wp2_with fail
    refine (within_any _ _ _ _).mono ?_
    rintro e w2 ⟨rfl, rfl⟩
    cases hb1 : inB b 1 5
    · have HB1 := Lib.hid hb1
      clear hb1
      go_wp2_with fail
      go_quiet (fail)
      go_wp2
      all_goals (go_ret2; rw [← HANS.out, busyT, if_neg HIN.out, if_pos HB1.out]; exact TryA.no .often (below_drewN X.K _))
    · have HB1 : Hid (¬ inB b 1 5 = false) := Lib.hid (by rw [hb1]; decide)
      clear hb1
      by_cases h4 : 4 ≤ s.ph
      · have H4 := Lib.hid h4
        go_wp2_with fail
        go_quiet (fail)
        go_wp2
        all_goals (go_ret2; rw [← HANS.out, busyT, if_neg HIN.out, if_neg HB1.out, if_pos H4.out]; exact TryA.no .phase (below_drewN X.K _))
      · have H4 : Hid (¬ 4 ≤ s.ph) := Lib.hid (by omega)
        obtain ⟨b', off', rfl, hb', hc⟩ := Q1.out.cell hil
        have p0 := (hc 0 (by decide)).trans (mntCs_at s.mnts (i := i) hil).1
        have p1 := (hc 1 (by decide)).trans (mntCs_at s.mnts (i := i) hil).2
        rw [Nat.add_zero] at p0
        clear hc
        have HPA : Hid (mntA s.mnts i = mntAt s (i : Int).toNat) := Lib.hid rfl
        generalize mntA s.mnts i = pa at p0 p1 HPA
        obtain ⟨held, bs⟩ := pa
        dsimp only at p0 p1
        cases held
        · have HH : Hid ((mntAt s (i : Int).toNat).1 = false ∨ (mntAt s (i : Int).toNat).2 ≠ 0) := Lib.hid (by rw [← HPA.out]; exact .inl rfl)
          go_wp2_with fail
          go_quiet (fail)
          go_wp2
          all_goals (go_ret2; rw [← HANS.out, busyT, if_neg HIN.out, if_neg HB1.out, if_neg (show ¬ 4 ≤ s.ph by have := H4.out; omega), if_pos HH.out]; exact TryA.no .state (below_drewN X.K _))
        · cases hbs : (bs != 0)
          · have HH : Hid (¬ ((mntAt s (i : Int).toNat).1 = false ∨ (mntAt s (i : Int).toNat).2 ≠ 0)) := Lib.hid (by rw [← HPA.out]; simpa using hbs)
            go_wp2
            all_goals (go_ret2; rw [← HANS.out, busyT, if_neg HIN.out, if_neg HB1.out, if_neg (show ¬ 4 ≤ s.ph by have := H4.out; omega), if_neg HH.out]; exact TryA.one 3 i b X.K)
          · have HH : Hid ((mntAt s (i : Int).toNat).1 = false ∨ (mntAt s (i : Int).toNat).2 ≠ 0) := Lib.hid (by rw [← HPA.out]; exact .inr (by simpa using hbs))
            go_wp2_with fail
            go_quiet (fail)
            go_wp2
            all_goals (go_ret2; rw [← HANS.out, busyT, if_neg HIN.out, if_neg HB1.out, if_neg (show ¬ 4 ≤ s.ph by have := H4.out; omega), if_pos HH.out]; exact TryA.no .state (below_drewN X.K _))
end Go.Proofs.YtdkmhaghnfhajaaGreatDoor
