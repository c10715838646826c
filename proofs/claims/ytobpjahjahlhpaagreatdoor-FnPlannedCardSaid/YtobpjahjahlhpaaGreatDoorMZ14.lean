/-
  Chapter 10 of the program: the commands.
-/
import Derived.Test.YtobpjahjahlhpaaGreatDoorMZ10
import Derived.Test.YtobpjahjahlhpaaGreatDoorMZ9
import Derived.Test.YtobpjahjahlhpaaGreatDoorMZ2
import Derived.Test.YtobpjahjahlhpaaGreatDoorMZ3
import Derived.Test.YtobpjahjahlhpaaGreatDoorMZ8
import Derived.BigQuiet
import Derived.Test.YtobpjahjahlhpaaGreatDoorMZ11
import Derived.Test.YtobpjahjahlhpaaGreatDoorMZ7
/- Jc -/
set_option linter.unusedVariables false
namespace Go.Proofs.YtobpjahjahlhpaaGreatDoor
open Go.RowKit

theorem index_any (L : List Int) (A : Option Addr) (c : Nat) (a : Int) (w : World) (h : SlV w w.heap.size 1 A L.length (lkCs L)) (hl : L.length ≤ maxLen) :
    Calls Tryz.prog 191 #[.slice A L.length c, .int .i64 a] w fun e w' => (∃ k : Nat, e = .returned (.int .i64 k) ∧ k ≤ 9223372036854775807 ∧ L.contains a = true ∨ e = .returned (.int .i64 (-1)) ∧ L.contains a = false) ∧ w = w' := by
  unfold maxLen at hl
  have H := Lib.hid h
  clear h
  obtain ⟨ans, hans⟩ : ∃ ans, L.contains a = ans := ⟨_, rfl⟩
  rw [hans]
  have HANS := Lib.hid hans
  clear hans
  go_enter Tryz.func191, Tryz.ntmps191
  go_wp2_with fail
  go_loopw [8] (fun j wr => ∃ k : Nat, k ≤ L.length ∧ j = .int .i64 k ∧ (∀ j, j < k → lkA L j ≠ a) ∧ w = wr) (fun j _ => L.length - (intOf j).toNat)
  case atStart => exact ⟨0, Nat.zero_le _, rfl, fun j hj => absurd hj (by omega), rfl⟩
  case round =>
    obtain ⟨k, hk, rfl, hall, rfl⟩ := hrel
    have HALL := Lib.hid hall
    clear hall
    by_cases hlt : k < L.length
    · obtain ⟨b', off', rfl, hb', hc⟩ := H.out.cell hlt
      have p0 := (hc 0 (by decide)).trans (lkCs_at L (i := k * 1 + 0) (by omega))
      rw [Nat.add_zero, Nat.mul_one] at p0
      clear hc
      have HYES : Hid (lkA L k = a → ans = true) := Lib.hid fun h => by rw [← HANS.out]; exact contains_at hlt h
      have HNO : Hid (lkA L k ≠ a → ∀ j, j < k + 1 → lkA L j ≠ a) := Lib.hid fun h j hj => by
        by_cases e : j = k
        · rw [e]; exact h
        · exact HALL.out j (by omega)
      generalize lkA L k = x at p0 HYES HNO
      cases hx : (a == x)
      · have HX : Hid (x ≠ a) := Lib.hid (by intro e; rw [e] at hx; simp at hx)
        go_wp2
        refine ⟨⟨k + 1, by omega, by go_num, HNO.out HX.out, by trivial⟩, by simp [intOf]; omega⟩
      · have HX : Hid (x = a) := Lib.hid (by have h : a = x := by simpa using hx
                                             exact h.symm)
        go_wp2
        all_goals (go_ret; exact ⟨⟨k, .inl ⟨rfl, by omega, HYES.out HX.out⟩⟩, rfl⟩)
    · obtain rfl : k = L.length := by omega
      go_wp2
      all_goals (go_ret; exact ⟨⟨0, .inr ⟨rfl, by rw [← HANS.out, contains_no HALL.out]⟩⟩, rfl⟩)
theorem contains_any (L : List Int) (A : Option Addr) (c : Nat) (a : Int) (w : World) (h : SlV w w.heap.size 1 A L.length (lkCs L)) (hl : L.length ≤ maxLen) :
    Calls Tryz.prog 169 #[.slice A L.length c, .int .i64 a] w fun e w' => e = .returned (.bool (L.contains a)) ∧ w = w' := by
  have H := Lib.hid h
  clear h
  obtain ⟨ans, hans⟩ : ∃ ans, L.contains a = ans := ⟨_, rfl⟩
  rw [hans]
  have HANS := Lib.hid hans
  clear hans
  go_enter Tryz.func169, Tryz.ntmps169
  go_wp2_with fail
  refine (index_any L A c a w H.out hl).mono ?_
  rw [HANS.out]
  rintro e w1 ⟨⟨k, ⟨rfl, hk, hc⟩ | ⟨rfl, hc⟩⟩, rfl⟩
  · have HC := Lib.hid hc
    clear hc
    go_wp2
    all_goals (go_ret; exact ⟨by rw [HC.out]; rfl, rfl⟩)
  · have HC := Lib.hid hc
    clear hc
    go_wp2
    all_goals (go_ret; exact ⟨by rw [HC.out]; rfl, rfl⟩)
end Go.Proofs.YtobpjahjahlhpaaGreatDoor
/- Mb -/
set_option linter.unusedVariables false
namespace Go.Proofs.YtobpjahjahlhpaaGreatDoor
open Go.RowKit Go.Maps

theorem mem_hits {n : Nat} {f : Nat → Int} {b x : Int} : x ∈ hits n f b ↔ (0 ≤ x ∧ x < n) ∧ f x.toNat = b := by
  constructor
  · intro h
    obtain ⟨i, hi, rfl, e⟩ := hits_mem h
    exact ⟨by omega, by simpa using e⟩
  · rintro ⟨⟨h0, h1⟩, e⟩
    have := hits_in (f := f) (n := n) (i := x.toNat) (by omega)
    rw [e] at this
    rwa [Int.toNat_of_nonneg h0] at this
theorem hits_rise (n : Nat) (f : Nat → Int) (b : Int) : (hits n f b).Pairwise (· < ·) := picks_rise n fun i => f i == b
theorem take_one {L : List Int} {k : Nat} (hk : k < L.length) : L.take (k + 1) = L.take k ++ [L.getD k 0] := by
  rw [List.take_add_one]
  simp [List.getD, hk]
theorem not_taken {L : List Int} (hp : L.Pairwise (· < ·)) {k : Nat} (hk : k < L.length) : L.getD k 0 ∉ L.take k := by
  intro hm
  have e := take_one hk
  have h2 : (L.take (k + 1)).Pairwise (· < ·) := hp.sublist (List.take_sublist _ _)
  rw [e, List.pairwise_append] at h2
  have := h2.2.2 _ hm _ (List.mem_singleton.2 rfl)
  omega
theorem SetD.one {D : DataW Unit} {L : List Int} (hp : L.Pairwise (· < ·)) {k : Nat} (hk : k < L.length) (h : SetD D (fun i => decide (i ∈ L.take k)) k) :
    SetD (D.put (.int .i64 (L.getD k 0)) (.lit (.bool true))) (fun i => decide (i ∈ L.take (k + 1))) (k + 1) := by
  refine (h.put (L.getD k 0) (by simpa using not_taken hp hk)).congr (fun i => ?_) rfl
  rw [take_one hk]
  simp [List.mem_append]

def leftQ (d : PlanD) (s : StD) (g : Int) (k i : Nat) : Bool := decide (d.x0 (i * 4) = g) && (decide (k ≤ i) || decide ((podA s.pods i).1 = 0))
def leftF (d : PlanD) (s : StD) (g : Int) (k : Nat) (i : Int) : Bool := (decide (0 ≤ i) && decide (i < d.n0)) && leftQ d s g k i.toNat
def leftN (d : PlanD) (s : StD) (g : Int) (k : Nat) : Nat := (List.range d.n0).countP (leftQ d s g k)
theorem left_start {D : DataW Unit} {d : PlanD} {s : StD} {g : Int} {L : List Int} (hL : L = hits d.n0 (fun i => d.x0 (i * 4)) g) (h : SetD D (fun i => decide (i ∈ L.take L.length)) L.length) : SetD D (leftF d s g 0) (leftN d s g 0) := by
  subst hL
  refine h.congr (fun i => ?_) ?_
  · rw [List.take_length]
    unfold leftF leftQ
    rw [Bool.eq_iff_iff]
    simp [mem_hits]
  · unfold leftN leftQ
    simp [hits, List.countP_eq_length_filter, BEq.beq]
theorem leftQ_next {d : PlanD} {s : StD} {g : Int} {k i : Nat} (h : i = k → (podA s.pods k).1 = 0) : leftQ d s g k i = leftQ d s g (k + 1) i := by
  unfold leftQ
  by_cases e : i = k
  · subst e
    simp [h rfl]
  · have : (k ≤ i) ↔ (k + 1 ≤ i) := by omega
    simp only [this]
theorem left_stay {D : DataW Unit} {d : PlanD} {s : StD} {g : Int} {k : Nat} (h : SetD D (leftF d s g k) (leftN d s g k)) (hr : (podA s.pods k).1 = 0) : SetD D (leftF d s g (k + 1)) (leftN d s g (k + 1)) := by
  have e : leftQ d s g k = leftQ d s g (k + 1) := funext fun i => leftQ_next fun _ => hr
  refine h.congr (fun i => ?_) ?_
  · unfold leftF; rw [e]
  · unfold leftN; rw [e]
theorem left_drop {D : DataW Unit} {d : PlanD} {s : StD} {g : Int} {k : Nat} (h : SetD D (leftF d s g k) (leftN d s g k)) (hk : k < d.n0) (hr : (podA s.pods k).1 ≠ 0) : SetD (D.del (.int .i64 k)) (leftF d s g (k + 1)) (leftN d s g (k + 1)) := by
  have h0 : leftQ d s g (k + 1) k = false := by
    unfold leftQ
    have : ¬ (k + 1 ≤ k) := by omega
    simp [this, hr]
  refine (h.del k).congr (fun i => ?_) ?_
  · unfold leftF
    by_cases e : i = (k : Int)
    · subst e
      rw [Int.toNat_natCast, h0]
      simp
    · by_cases e2 : 0 ≤ i
      · rw [leftQ_next (k := k) (i := i.toNat) (fun e3 => absurd (by omega) e)]
        simp [e]
      · simp [e2]
  · have hF : leftF d s g k k = leftQ d s g k k := by
      unfold leftF
      rw [Int.toNat_natCast]
      have : (k : Int) < d.n0 := by omega
      simp [this]
    rw [hF]
    unfold leftN
    cases hq : leftQ d s g k k
    · have e : ∀ i, leftQ d s g k i = leftQ d s g (k + 1) i := fun i => by
        by_cases e : i = k
        · rw [e, hq, h0]
        · exact leftQ_next fun e2 => absurd e2 e
      rw [show leftQ d s g k = leftQ d s g (k + 1) from funext e]
      simp
    · have := count_flip hq h0 (fun j hj => leftQ_next fun e2 => absurd e2 hj) d.n0
      rw [if_pos hk] at this
      rw [this]
      simp
theorem left_end {D : DataW Unit} {d : PlanD} {s : StD} {g : Int} (h : SetD D (leftF d s g d.n0) (leftN d s g d.n0)) : (∀ i : Nat, i < d.n0 → D.atKey (.int .i64 i) (.lit (.bool false)) = .lit (.bool (hP d s g i))) ∧ (Go.Maps.size D : Int) = healthyN d s g := by
  have e : ∀ i, i < d.n0 → leftQ d s g d.n0 i = hP d s g i := fun i hi => by
    unfold leftQ hP
    have : ¬ (d.n0 ≤ i) := by omega
    simp [this]
  refine ⟨fun i hi => ?_, ?_⟩
  · rw [h.at_]
    unfold leftF
    rw [Int.toNat_natCast, e i hi]
    have : (i : Int) < d.n0 := by omega
    simp [this]
  · rw [h.size_, healthyN_count]
    unfold leftN
    congr 1
    exact List.countP_congr fun i hi => by rw [e i (List.mem_range.1 hi)]
end Go.Proofs.YtobpjahjahlhpaaGreatDoor
/- Mc -/
set_option linter.unusedVariables false
namespace Go.Proofs.YtobpjahjahlhpaaGreatDoor
open Go.RowKit Go.Maps

theorem law64 : Keyed Tryz.prog 2 := int_keyed Tryz.underlying2
theorem zero_bool (w : World) : (zeroValue 4).run Tryz.prog w = .ok (.bool false) w := by kernel_rfl
theorem Keeps.of_grownM {w w' : World} {b : Nat} (h : w.grownBy w' (some b)) : Keeps (fun x => x = b) w w' := by
  obtain ⟨h1, h2, h3, h4, h5⟩ := h
  exact ⟨h1, h2, h3, h4, fun i hi hn => h5 i hi (fun e => hn (by cases e; rfl))⟩
theorem Two.keepB {w w1 w2 : World} {cs os : Array Value} {b : Nat} (h : Two w w1 cs os) (hg : w1.grownBy w2 (some b)) (hb : w.heap.size + 2 ≤ b) : Two w w2 cs os :=
  ⟨h.A.keeps (Keeps.of_grownM hg) (by intro x hx; omega) (by omega), h.O.keeps (Keeps.of_grownM hg) (by intro x hx; omega) (by omega)⟩
/-- What leftIn answers: a map of the call's own. -/
def LeftIn (w : World) (d : PlanD) (s : StD) (g : Int) (e : Ending) (w' : World) : Prop :=
  ∃ B n D, e = .returned (.map (some B)) ∧ w'.ownsMap Tryz.prog 2 (plainElem (H := Unit) Tryz.prog 4) B n D ∧ (∀ i : Nat, i < d.n0 → D.atKey (.int .i64 i) (.lit (.bool false)) = .lit (.bool (hP d s g i))) ∧
    (Go.Maps.size D : Int) = healthyN d s g ∧ Below w.heap.size w w'

set_option maxRecDepth 100000 in
set_option maxHeartbeats 4000000 in
theorem implLeftIn_any (pv sv : Value) (d : PlanD) (s : StD) (g : Int) (w : World) (hp : IsPlan w w.heap.size pv d) (hs : IsSt w w.heap.size sv s) (hok : StOk d s) :
    Calls Tryz.prog 189 #[pv, sv, .int .i64 g] w (LeftIn w d s g) := by
  have HP := Lib.hid hp
  have HS := Lib.hid hs
  have OK := Lib.hid hok
  have HL := Lib.hid (planOk_lock hok.plan)
  obtain ⟨⟨P0, P1, P2, P3, k0, k1, k2, k3, rfl, -, -, -, -⟩, b0, b1, b2, b3⟩ := hp
  obtain ⟨⟨A0, A1, A2, A3, c0, c1, c2, c3, rfl, t0, -, -, -⟩, f0, f1, f2, f3⟩ := hs
  have R0 := Lib.hid t0
  clear t0 hok
  unfold maxLen at b0 b1 b2 b3 f0 f1 f2 f3
  have T0 := Two.start w (planC P0 P1 P2 P3 d.n0 k0 d.n1 k1 d.n2 k2 d.n3 k3 d.l d.p d.t) (stC A0 A1 A2 A3 s.pods.length c0 s.mnts.length c1 s.devs.length c2 s.lks.length c3 s.ph s.co s.ck s.bo s.ba s.lb s.gd s.pr) 29 34
  have hmm := @run_makeMap Tryz.prog
  go_enter Tryz.func189, Tryz.ntmps189
  go_wp2_with fail
  have T1 := T0.step ((Below.refl _ _).alloc (Nat.le_refl _) (.map #[] 0))
  have M1 := World.ownsMap_made ((w.alloc (.cells (planC P0 P1 P2 P3 d.n0 k0 d.n1 k1 d.n2 k2 d.n3 k3 d.l d.p d.t) 29)).alloc (.cells (stC A0 A1 A2 A3 s.pods.length c0 s.mnts.length c1 s.devs.length c2 s.lks.length c3 s.ph s.co s.ck s.bo s.ba s.lb s.gd s.pr) 34)) Tryz.prog 2 (plainElem (H := Unit) Tryz.prog 4)
  simp only [heap_size_alloc_] at M1
  refine (implPodsIn_any _ d g _ ((HP.out.below T1.A.K (Nat.le_refl _)).more T1.A.K.size) (by have := HL.out; omega)).mono ?_
  rintro e w2 ⟨v, rfl, O, hb⟩
  rw [found_yes OK.out.plan] at O
  obtain ⟨L, hL⟩ : ∃ L, hits d.n0 (fun i => d.x0 (i * 4)) g = L := ⟨_, rfl⟩
  rw [hL] at O
  obtain ⟨Q, c, r0, rfl, hQ, hB, hz, R⟩ := open_list O
  have T2 := T1.step hb
  have M2 := M1.kept (row := none) ⟨hb.os, hb.tape, hb.output, hb.size, fun k hk _ => hb.block k hk⟩ (by simp)
  have HQ := Lib.hid hQ
  have HR := Lib.hid R
  have HB := Lib.hid hB
  have HLn : Hid (L.length ≤ 12) := Lib.hid (by rw [← hL]; have := hits_le d.n0 (fun i => d.x0 (i * 4)) g; have := HL.out; omega)
  have HLR : Hid (L.Pairwise (· < ·)) := Lib.hid (by rw [← hL]; exact hits_rise _ _ _)
  have HLW : Hid (∀ k, k < L.length → (Lit.int .i64 (L.getD k 0)).wf = true) := Lib.hid fun k hk => by
    have hm : L.getD k 0 ∈ hits d.n0 (fun i => d.x0 (i * 4)) g := by
      rw [hL]
      simp [List.getD, hk]
    have := mem_hits.1 hm
    have := HL.out
    exact WalkArith.wf_i64 (by omega)
  have HLL := Lib.hid hL.symm
  simp only [heap_size_alloc_] at hB
  have HB := Lib.hid hB
  have HZ := Lib.hid hz
  have HR := Lib.hid R
  clear hL hQ hB hz R O M1 T1 T0 hb
  have hln := HLn.out
  go_wp2_with fail
  go_loopw [17] (fun i wr => ∃ (k : Nat) (D : DataW Unit), k ≤ L.length ∧ i = .int .i64 k ∧ wr.ownsMap Tryz.prog 2 (plainElem Tryz.prog 4) (w.heap.size + 1 + 1) k D ∧ SetD D (fun i => decide (i ∈ L.take k)) k ∧ Keeps (fun x => x = w.heap.size + 1 + 1) w2 wr ∧ Two w wr (planC P0 P1 P2 P3 d.n0 k0 d.n1 k1 d.n2 k2 d.n3 k3 d.l d.p d.t) (stC A0 A1 A2 A3 s.pods.length c0 s.mnts.length c1 s.devs.length c2 s.lks.length c3 s.ph s.co s.ck s.bo s.ba s.lb s.gd s.pr)) (fun i _ => L.length - (intOf i).toNat)
  case atStart => exact ⟨0, _, Nat.zero_le _, rfl, M2, SetD.empty.congr (fun i => by simp) rfl, Keeps.refl _ _, T2⟩
  case round =>
    clear M2 T2
    obtain ⟨k, D, hk, rfl, M, hS, hK, T⟩ := hrel
    have HM := Lib.hid M
    have HSD := Lib.hid hS
    have HK := Lib.hid hK
    clear M hS hK
    have hC := T.A.C
    have hD := T.O.C
    by_cases hlt : k < L.length
    · have e0 := HQ.out (by omega)
      subst e0
      have q0 := ((HR.out.goK HZ.out HK.out (fun hn e => by have := HB.out; omega)) k hlt).1
      have hkey : keyOf Tryz.prog 2 (.int .i64 (L.getD k 0)) = some (.int .i64 (L.getD k 0)) := keyOf_int_mk Tryz.underlying2 (HLW.out k hlt)
      have HKEY := Lib.hid hkey
      have HSN := Lib.hid (HSD.out.one HLR.out hlt)
      clear hkey
      generalize L.getD k 0 = x at *
      go_wp2_with (first
        | (at_mapUpdate; refine wpList_mapUpdate_own _ rfl _ _ _ 218 rfl 2 4 law64 Tryz.underlying218 _ (w.heap.size + 1 + 1) k _ rfl HM.out (by unfold maxLen; omega) _ _ _ rfl rfl HKEY.out _ [] (plainElem_bool Tryz.underlying4 true) ?_; intro w1 hown1 hgrow1))
      refine ⟨⟨k + 1, _, by omega, by go_num, hown1, HSN.out, HK.out.trans (Keeps.of_grownM hgrow1), T.keepB hgrow1 (by omega)⟩, by simp [intOf]; omega⟩
    · obtain rfl : k = L.length := by omega
      have HST := Lib.hid (left_start (s := s) HLL.out HSD.out)
      clear HSD HK HR HQ HZ HB
      obtain ⟨hp, hnp⟩ : s.pods.length ≤ 12 ∧ s.pods.length = d.n0 := by have := OK.out.np; have := HL.out; omega
      have HNP := Lib.hid hnp
      clear hnp
      go_wp2_with fail
      go_loopw [27] (fun i wr => ∃ (k : Nat) (D : DataW Unit), k ≤ s.pods.length ∧ i = .int .i64 k ∧ wr.ownsMap Tryz.prog 2 (plainElem Tryz.prog 4) (w.heap.size + 1 + 1) L.length D ∧ SetD D (leftF d s g k) (leftN d s g k) ∧ Two w wr (planC P0 P1 P2 P3 d.n0 k0 d.n1 k1 d.n2 k2 d.n3 k3 d.l d.p d.t) (stC A0 A1 A2 A3 s.pods.length c0 s.mnts.length c1 s.devs.length c2 s.lks.length c3 s.ph s.co s.ck s.bo s.ba s.lb s.gd s.pr)) (fun i _ => s.pods.length - (intOf i).toNat)
      case atStart => exact ⟨0, _, Nat.zero_le _, rfl, HM.out, HST.out, T⟩
      case round =>
        clear HM HST T hC hD
        obtain ⟨k, D, hk, rfl, M, hS, T⟩ := hrel
        have HM := Lib.hid M
        have HSD := Lib.hid hS
        clear M hS
        have hC := T.A.C
        have hD := T.O.C
        by_cases hlt : k < s.pods.length
        · obtain ⟨b, off, rfl, hb, hc⟩ := (R0.out.below T.A.K (Nat.le_refl _)).cell hlt
          have hp := podCs_at s.pods (i := k) hlt
          have q0 := (hc 0 (by decide)).trans hp.1
          have q1 := (hc 1 (by decide)).trans hp.2
          rw [Nat.add_zero] at q0
          clear hc hp
          have hk0 : k < d.n0 := by have := HNP.out; omega
          have hkey : keyOf Tryz.prog 2 (.int .i64 k) = some (.int .i64 k) := keyOf_int_mk Tryz.underlying2 (WalkArith.wf_i64 (by omega))
          have HKEY := Lib.hid hkey
          clear hkey
          by_cases hx : (podA s.pods k).1 = 0
          · have HN := Lib.hid (left_stay HSD.out hx)
            generalize podA s.pods k = r at q0 q1 hx
            obtain ⟨x, y⟩ := r
            dsimp only at q0 q1 hx
            subst hx
            go_wp2_with fail
            refine ⟨⟨k + 1, D, by omega, by go_num, HM.out.alloc _, HN.out, T.step ((Below.refl _ _).alloc (Nat.le_refl _) _)⟩, by simp [intOf]; omega⟩
          · have HN := Lib.hid (left_drop HSD.out hk0 hx)
            generalize podA s.pods k = r at q0 q1 hx
            obtain ⟨x, y⟩ := r
            dsimp only at q0 q1 hx
            go_wp2_with (first
              | (at_delete; refine wpList_delete_own _ rfl _ _ 218 2 rfl 4 law64 Tryz.underlying218 _ (w.heap.size + 1 + 1) L.length D rfl (HM.out.alloc _) _ _ rfl HKEY.out ?_; intro w1 hown1 hturn1))
            refine ⟨⟨k + 1, _, by omega, by go_num, hown1, HN.out, (T.step ((Below.refl _ _).alloc (Nat.le_refl _) _)).keepB hturn1.grown (by omega)⟩, by simp [intOf]; omega⟩
        · obtain rfl : k = s.pods.length := by omega
          have HE := Lib.hid (left_end (by have := HSD.out; rw [HNP.out] at this; exact this))
          clear HSD
          go_wp2_with fail
          go_ret
          exact ⟨_, _, D, rfl, HM.out, HE.out.1, HE.out.2, T.A.K⟩

set_option maxRecDepth 100000 in
set_option maxHeartbeats 4000000 in
theorem implMayEvict_any (pv sv : Value) (d : PlanD) (s : StD) (a : Int) (w : World) (hp : IsPlan w w.heap.size pv d) (hs : IsSt w w.heap.size sv s) :
    Calls Tryz.prog 166 #[pv, sv, .int .i64 a] w fun e w' => e = .returned (.bool (stOkB d s && mayEvictB d s a)) ∧ Below w.heap.size w w' := by
  have HP := Lib.hid hp
  have HS := Lib.hid hs
  obtain ⟨⟨P0, P1, P2, P3, k0, k1, k2, k3, rfl, s0, s1, -, -⟩, b0, b1, b2, b3⟩ := hp
  obtain ⟨⟨A0, A1, A2, A3, c0, c1, c2, c3, rfl, -, -, -, -⟩, f0, f1, f2, f3⟩ := hs
  have S0 := Lib.hid s0
  have S1 := Lib.hid s1
  unfold maxLen at b0 b1 b2 b3 f0 f1 f2 f3
  clear s0 s1
  have T0 := Two.start w (planC P0 P1 P2 P3 d.n0 k0 d.n1 k1 d.n2 k2 d.n3 k3 d.l d.p d.t) (stC A0 A1 A2 A3 s.pods.length c0 s.mnts.length c1 s.devs.length c2 s.lks.length c3 s.ph s.co s.ck s.bo s.ba s.lb s.gd s.pr) 29 34
  obtain ⟨ans, hans⟩ : ∃ ans, (stOkB d s && mayEvictB d s a) = ans := ⟨_, rfl⟩
  rw [hans]
  have HANS := Lib.hid hans
  clear hans
  go_enter Tryz.func166, Tryz.ntmps166
  go_wp2_with fail
  refine (implStateOk_any _ _ d s _ ((HP.out.below T0.A.K (Nat.le_refl _)).more T0.A.K.size) ((HS.out.below T0.A.K (Nat.le_refl _)).more T0.A.K.size)).mono ?_
  rintro e w1 ⟨rfl, hb⟩
  have T1 := T0.step hb
  have hC := T1.A.C
  have hD := T1.O.C
  clear hb T0
  cases hok : stOkB d s
  · have OKB := Lib.hid hok
    clear hok
    go_wp2
    all_goals (go_ret; exact ⟨ret_bool (by rw [← HANS.out, OKB.out]; rfl), T1.A.K⟩)
  · have OK := Lib.hid (stOkB_iff.1 hok)
    have OKB := Lib.hid hok
    clear hok
    cases hph : (s.ph != 2)
    case true =>
      have HPH : Hid (¬ s.ph = 2) := Lib.hid (by simpa using hph)
      go_wp2
      all_goals (go_ret; exact ⟨ret_bool (by rw [← HANS.out, OKB.out]; simp [mayEvictB, HPH.out]), T1.A.K⟩)
    case false =>
      have HPH : Hid (s.ph = 2) := Lib.hid (by simpa using hph)
      go_wp2_with fail
      refine (isIndex_any _ _ _).mono ?_
      rintro e w2 ⟨rfl, rfl⟩
      cases hin : inB a 0 (d.n0 - 1)
      · have HIN := Lib.hid hin
        clear hin
        go_wp2
        all_goals (go_ret; exact ⟨ret_bool (by rw [← HANS.out, OKB.out]; simp [mayEvictB, HIN.out]), T1.A.K⟩)
      · have HIN := Lib.hid hin
        obtain ⟨i, rfl, hi⟩ := index_nat (a := a) (n := d.n0) (by rw [hin]; decide)
        clear hin hph
        obtain ⟨m, hm, hml⟩ := pod_group OK.out.plan hi
        have HANS2 : Hid (ans = (hP d s m i && decide (d.x1 m < healthyN d s m))) := Lib.hid (by
          rw [← HANS.out, OKB.out, mayEvictB, HIN.out, HPH.out, Int.toNat_natCast, hm, Int.toNat_natCast]
          simp [podAt, podA, hP, hm])
        obtain ⟨b, off, rfl, hb, q0, -, -, -⟩ := (S0.out.own T1.A).cell4 hi
        rw [hm] at q0
        clear hm
        go_wp2_with fail
        refine (implLeftIn_any _ _ d s m _ ((HP.out.below T1.A.K (Nat.le_refl _)).more T1.A.K.size) ((HS.out.below T1.A.K (Nat.le_refl _)).more T1.A.K.size) OK.out).mono ?_
        rintro e w3 ⟨B, n, D, rfl, hown, hat, hsz, hb3⟩
        have T3 := T1.step hb3
        obtain ⟨b1_, off1, rfl, hb1, r0⟩ := (S1.out.below T3.A.K (Nat.le_refl _)).cell1 hml
        have hi12 : i < 1000 := by have := planOk_lock OK.out.plan; omega
        have hkey : keyOf Tryz.prog 2 (.int .i64 i) = some (.int .i64 i) := keyOf_int_mk Tryz.underlying2 (WalkArith.wf_i64 (by omega))
        have hlk : ∀ q, (Instr.lookup 218 (.map (some B)) (.int .i64 i) false).run Tryz.prog (w3.drewN q) = .ok (.bool (hP d s m i)) (w3.drewN q) := fun q => by
          have hown' : (w3.drewN q).ownsMap Tryz.prog 2 (plainElem (H := Unit) Tryz.prog 4) B n D := hown.kept (row := none) ⟨(below_drewN (Below.refl w3.heap.size w3) q).os, (below_drewN (Below.refl w3.heap.size w3) q).tape, (below_drewN (Below.refl w3.heap.size w3) q).output, (below_drewN (Below.refl w3.heap.size w3) q).size, fun k hk _ => (below_drewN (Below.refl w3.heap.size w3) q).block k hk⟩ (by simp)
          obtain ⟨v, ps, hrun, hv⟩ := hown'.lookup law64 Tryz.underlying218 (zero_bool _) (plainElem_bool Tryz.underlying4 false) hkey
          obtain ⟨x, rfl, hx⟩ := plainElem_bool_is Tryz.underlying4 hv
          rw [hat i hi] at hx
          simp only [Prod.mk.injEq, DataW.lit.injEq, Lit.bool.injEq] at hx
          rw [hx.1]
          exact hrun
        have hlen : ∀ q ty, (Builtin.len_ #[218] ty #[.map (some B)]).run Tryz.prog (w3.drewN q) = .ok (.int .i64 (healthyN d s m)) (w3.drewN q) := fun q ty => by
          have hown' : (w3.drewN q).ownsMap Tryz.prog 2 (plainElem (H := Unit) Tryz.prog 4) B n D := hown.kept (row := none) ⟨(below_drewN (Below.refl w3.heap.size w3) q).os, (below_drewN (Below.refl w3.heap.size w3) q).tape, (below_drewN (Below.refl w3.heap.size w3) q).output, (below_drewN (Below.refl w3.heap.size w3) q).size, fun k hk _ => (below_drewN (Below.refl w3.heap.size w3) q).block k hk⟩ (by simp)
          rw [← hsz]
          exact hown'.len Tryz.underlying218 ty
        clear hown hat hsz hkey hb3 T1 hC hD q0 hb
        have hC := T3.A.C
        have hD := T3.O.C
        generalize healthyN d s m = hn at *
        cases hp : hP d s m i
        · rw [hp] at hlk HANS2
          go_wp2_with fail
          go_quiet (fail)
          go_wp2
          all_goals (go_ret; exact ⟨ret_bool (by rw [HANS2.out]; rfl), below_drewN T3.A.K _⟩)
        · rw [hp] at hlk HANS2
          go_wp2_with fail
          go_quiet (fail)
          go_wp2
          all_goals (go_ret; exact ⟨ret_bool (by rw [HANS2.out]; simp), below_drewN T3.A.K _⟩)
end Go.Proofs.YtobpjahjahlhpaaGreatDoor
/- Jd -/
set_option linter.unusedVariables false
namespace Go.Proofs.YtobpjahjahlhpaaGreatDoor
open Go.RowKit

/-- The cells of a command. -/
abbrev cmdC (A0 A1 A2 A3 : Option Addr) (n0 c0 n1 c1 n2 c2 n3 c3 : Nat) (l p t : Int) (E0 E1 E2 E3 : Option Addr) (m0 k0 m1 k1 m2 k2 m3 k3 : Nat) (ph : Int) (co : Bool) (ck bo ba lb gd pr a b : Int) : Array Value :=
  #[.slice A0 n0 c0, .slice A1 n1 c1, .slice A2 n2 c2, .slice A3 n3 c3, .int .i64 l, .int .i64 p, .int .i64 t,
    .int .i64 ph, .bool co, .int .i64 ck, .int .i64 bo, .int .i64 ba, .int .i64 lb, .slice E0 m0 k0, .slice E1 m1 k1, .slice E2 m2 k2, .slice E3 m3 k3, .int .i64 gd, .int .i64 pr, .int .i64 a, .int .i64 b]
/-- A command that can be read below block B. -/
structure IsCmd (w : World) (B : Nat) (v : Value) (d : PlanD) (s : StD) (a b : Int) : Prop where
  it : ∃ A0 A1 A2 A3 c0 c1 c2 c3 E0 E1 E2 E3 k0 k1 k2 k3, v = .agg (cmdC A0 A1 A2 A3 d.n0 c0 d.n1 c1 d.n2 c2 d.n3 c3 d.l d.p d.t E0 E1 E2 E3 s.pods.length k0 s.mnts.length k1 s.devs.length k2 s.lks.length k3 s.ph s.co s.ck s.bo s.ba s.lb s.gd s.pr a b) ∧ (Sl w B 4 A0 d.n0 d.x0 ∧ Sl w B 1 A1 d.n1 d.x1 ∧ Sl w B 2 A2 d.n2 d.x2 ∧ Sl w B 1 A3 d.n3 d.x3) ∧
    SlV w B 2 E0 s.pods.length (podCs s.pods) ∧ SlV w B 2 E1 s.mnts.length (mntCs s.mnts) ∧ SlV w B 1 E2 s.devs.length (devCs s.devs) ∧ SlV w B 1 E3 s.lks.length (lkCs s.lks)
  bp : d.n0 ≤ maxLen ∧ d.n1 ≤ maxLen ∧ d.n2 ≤ maxLen ∧ d.n3 ≤ maxLen
  bs : s.pods.length ≤ maxLen ∧ s.mnts.length ≤ maxLen ∧ s.devs.length ≤ maxLen ∧ s.lks.length ≤ maxLen
theorem IsCmd.below {w w' : World} {B B' : Nat} {v : Value} {d : PlanD} {s : StD} {a b : Int} (h : IsCmd w B v d s a b) (hb : Below B' w w') (hB : B ≤ B') : IsCmd w' B v d s a b := by
  obtain ⟨⟨A0, A1, A2, A3, c0, c1, c2, c3, E0, E1, E2, E3, k0, k1, k2, k3, hv, ⟨p0, p1, p2, p3⟩, q0, q1, q2, q3⟩, hp, hs⟩ := h
  exact ⟨⟨A0, A1, A2, A3, c0, c1, c2, c3, E0, E1, E2, E3, k0, k1, k2, k3, hv, ⟨p0.below hb hB, p1.below hb hB, p2.below hb hB, p3.below hb hB⟩, q0.below hb hB, q1.below hb hB, q2.below hb hB, q3.below hb hB⟩, hp, hs⟩
theorem IsCmd.more {w : World} {B B' : Nat} {v : Value} {d : PlanD} {s : StD} {a b : Int} (h : IsCmd w B v d s a b) (hB : B ≤ B') : IsCmd w B' v d s a b := by
  obtain ⟨⟨A0, A1, A2, A3, c0, c1, c2, c3, E0, E1, E2, E3, k0, k1, k2, k3, hv, ⟨p0, p1, p2, p3⟩, q0, q1, q2, q3⟩, hp, hs⟩ := h
  exact ⟨⟨A0, A1, A2, A3, c0, c1, c2, c3, E0, E1, E2, E3, k0, k1, k2, k3, hv, ⟨p0.more hB, p1.more hB, p2.more hB, p3.more hB⟩, q0.more hB, q1.more hB, q2.more hB, q3.more hB⟩, hp, hs⟩
theorem IsCmd.go {w w' : World} {v : Value} {d : PlanD} {s : StD} {a b : Int} (h : IsCmd w w.heap.size v d s a b) (hb : Below w.heap.size w w') : IsCmd w' w'.heap.size v d s a b := (h.below hb (Nat.le_refl _)).more hb.size

/-- What is tried: records, or a reason. -/
def errV (K O P S B : Addr) : Option Why → Value
  | none => .nilIface
  | some y => whyV K O P S B y
def TryA (K O P S B : Addr) (w : World) (x : List RecD × Option Why) (e : Ending) (w' : World) : Prop :=
  ∃ v, e = .returned (.tuple #[v, errV K O P S B x.2]) ∧ OR w' w.heap.size v x.1 ∧ Below w.heap.size w w'
def no_ (y : Why) : List RecD × Option Why := ([], some y)
def one_ (k a b : Int) : List RecD × Option Why := ([⟨k, a, b⟩], none)
theorem TryA.no {K O P S B : Addr} {w w' : World} (y : Why) (h : Below w.heap.size w w') : TryA K O P S B w (no_ y) (.returned (.tuple #[.slice none 0 0, whyV K O P S B y])) w' := ⟨_, rfl, OR.nil_ _ _, h⟩
theorem TryA.one {K O P S B : Addr} {w w' : World} (k a b : Int) (h : Below w.heap.size w w') : TryA K O P S B w (one_ k a b) (.returned (.tuple #[.slice (some ⟨w'.heap.size, 0, none⟩) 1 1, .nilIface])) (w'.alloc (.cells #[.int .i64 k, .int .i64 a, .int .i64 b] 69)) :=
  ⟨_, rfl, OR.first h.size k a b, h.alloc h.size _⟩

def phaseT (s : StD) (f t : Int) : List RecD × Option Why := if s.ph = f then one_ 1 t 0 else no_ .phase
def evictT (d : PlanD) (s : StD) (a : Int) : List RecD × Option Why :=
  if inB a 0 (d.n0 - 1) = false then no_ (.missing a) else if s.ph ≠ 2 then no_ .phase else if (podAt s a.toNat).1 ≠ 0 then no_ .state else if mayEvictB d s a = false then no_ .budget else one_ 2 a 6
def shutT (d : PlanD) (s : StD) : List RecD × Option Why := if s.ph = 1 ∨ s.ph = 2 then ((shutD d s).1, none) else no_ .phase
def cancelT (s : StD) : List RecD × Option Why := if s.ph = 1 ∨ s.ph = 2 then one_ 1 0 0 else no_ .phase
def lockT (s : StD) (a : Int) : List RecD × Option Why := if inB a 0 7 = false then no_ (.missing a) else if 3 ≤ s.ph then no_ .phase else if s.lks.contains a then no_ .state else one_ 6 a 0
def unlockT (s : StD) (a : Int) : List RecD × Option Why := if inB a 0 7 = false then no_ (.missing a) else if s.lks.contains a = false then no_ .state else one_ 7 a 0
def toldT (d : PlanD) (s : StD) (f : Int → Int) (a : Int) : List RecD × Option Why := if inB a 0 (d.n0 - 1) = false then no_ (.missing a) else if f (podAt s a.toNat).1 = -1 then no_ .state else one_ 2 a (f (podAt s a.toNat).1)
def busyT (d : PlanD) (s : StD) (a b : Int) : List RecD × Option Why :=
  if inB a 0 (d.n2 - 1) = false then no_ (.missing a) else if inB b 1 5 = false then no_ .often else if 4 ≤ s.ph then no_ .phase else if (mntAt s a.toNat).1 = false ∨ (mntAt s a.toNat).2 ≠ 0 then no_ .state else one_ 3 a b
def tryD (d : PlanD) (s : StD) (k a b : Int) : List RecD × Option Why :=
  if k = 1 then phaseT s 0 1 else if k = 2 then phaseT s 1 2 else if k = 3 then evictT d s a else if k = 4 then shutT d s else if k = 5 then cancelT s else if k = 6 then lockT s a else if k = 7 then unlockT s a
  else if k = 8 then toldT d s hookD a else if k = 9 then toldT d s exitD a else if k = 10 then busyT d s a b else no_ .kind
/-- The records and the code of what is tried. -/
def codeD : List RecD × Option Why → List RecD × Int
  | (l, none) => (l, 0)
  | (_, some y) => ([], codeW y)

set_option maxRecDepth 4000 in
set_option maxHeartbeats 1000000 in
theorem cordon_any (K O P S B : Addr) (v : Value) (d : PlanD) (s : StD) (a b : Int) (w : World) (h : IsCmd w w.heap.size v d s a b) (hE : Errs w K O P S B) :
    Calls Tryz.prog 121 #[v] w (TryA K O P S B w (phaseT s 0 1)) := by
  obtain ⟨⟨A0, A1, A2, A3, c0, c1, c2, c3, E0, E1, E2, E3, k0, k1, k2, k3, rfl, ⟨p0, p1, p2, p3⟩, q0, q1, q2, q3⟩, ⟨b0, b1, b2, b3⟩, ⟨f0, f1, f2, f3⟩⟩ := h
  have X := Own.box w (cmdC A0 A1 A2 A3 d.n0 c0 d.n1 c1 d.n2 c2 d.n3 c3 d.l d.p d.t E0 E1 E2 E3 s.pods.length k0 s.mnts.length k1 s.devs.length k2 s.lks.length k3 s.ph s.co s.ck s.bo s.ba s.lb s.gd s.pr a b) 106
  have HP := Lib.hid (((show IsPlan w w.heap.size (planV A0 A1 A2 A3 d.n0 c0 d.n1 c1 d.n2 c2 d.n3 c3 d.l d.p d.t) d from ⟨⟨A0, A1, A2, A3, c0, c1, c2, c3, rfl, p0, p1, p2, p3⟩, b0, b1, b2, b3⟩).below X.K (Nat.le_refl _)).more X.K.size)
  have HS := Lib.hid (((show IsSt w w.heap.size (.agg (stC E0 E1 E2 E3 s.pods.length k0 s.mnts.length k1 s.devs.length k2 s.lks.length k3 s.ph s.co s.ck s.bo s.ba s.lb s.gd s.pr)) s from ⟨⟨E0, E1, E2, E3, k0, k1, k2, k3, rfl, q0, q1, q2, q3⟩, f0, f1, f2, f3⟩).below X.K (Nat.le_refl _)).more X.K.size)
  have Q0 := Lib.hid ((q0.below X.K (Nat.le_refl _)).more X.K.size)
  have Q1 := Lib.hid ((q1.below X.K (Nat.le_refl _)).more X.K.size)
  have Q3 := Lib.hid ((q3.below X.K (Nat.le_refl _)).more X.K.size)
  have F3 := Lib.hid f3
  unfold maxLen at b0 b1 b2 b3 f0 f1 f2 f3
  clear p0 p1 p2 p3 q0 q1 q2 q3
  have HE := Lib.hid (hE.below X.K)
  clear hE
  cases h1 : (s.ph != 0)
  · have H1 : Hid (s.ph = 0) := Lib.hid (by simpa using h1)
    go_enter Tryz.func121, Tryz.ntmps121
    go_upto_region 1 with fail
    generalize w.alloc (.cells (cmdC A0 A1 A2 A3 d.n0 c0 d.n1 c1 d.n2 c2 d.n3 c3 d.l d.p d.t E0 E1 E2 E3 s.pods.length k0 s.mnts.length k1 s.devs.length k2 s.lks.length k3 s.ph s.co s.ck s.bo s.ba s.lb s.gd s.pr a b) 106) = W at X HP HS Q0 Q1 Q3 HE ⊢
    have hC := X.C
    go_wp2
    all_goals (go_ret2; rw [phaseT, if_pos H1.out]; exact TryA.one 1 1 0 X.K)
  · have H1 : Hid (¬ s.ph = 0) := Lib.hid (by simpa using h1)
    go_enter Tryz.func121, Tryz.ntmps121
    go_upto_region 1 with fail
    generalize w.alloc (.cells (cmdC A0 A1 A2 A3 d.n0 c0 d.n1 c1 d.n2 c2 d.n3 c3 d.l d.p d.t E0 E1 E2 E3 s.pods.length k0 s.mnts.length k1 s.devs.length k2 s.lks.length k3 s.ph s.co s.ck s.bo s.ba s.lb s.gd s.pr a b) 106) = W at X HP HS Q0 Q1 Q3 HE ⊢
    have hC := X.C
    have hg := HE.out.p.1
    go_wp2_with fail
    go_quiet (fail)
    go_wp2
    all_goals (go_ret2; rw [phaseT, if_neg H1.out]; exact TryA.no .phase (below_drewN X.K _))

set_option maxRecDepth 4000 in
set_option maxHeartbeats 1000000 in
theorem drain_any (K O P S B : Addr) (v : Value) (d : PlanD) (s : StD) (a b : Int) (w : World) (h : IsCmd w w.heap.size v d s a b) (hE : Errs w K O P S B) :
    Calls Tryz.prog 122 #[v] w (TryA K O P S B w (phaseT s 1 2)) := by
  obtain ⟨⟨A0, A1, A2, A3, c0, c1, c2, c3, E0, E1, E2, E3, k0, k1, k2, k3, rfl, ⟨p0, p1, p2, p3⟩, q0, q1, q2, q3⟩, ⟨b0, b1, b2, b3⟩, ⟨f0, f1, f2, f3⟩⟩ := h
  have X := Own.box w (cmdC A0 A1 A2 A3 d.n0 c0 d.n1 c1 d.n2 c2 d.n3 c3 d.l d.p d.t E0 E1 E2 E3 s.pods.length k0 s.mnts.length k1 s.devs.length k2 s.lks.length k3 s.ph s.co s.ck s.bo s.ba s.lb s.gd s.pr a b) 106
  have HP := Lib.hid (((show IsPlan w w.heap.size (planV A0 A1 A2 A3 d.n0 c0 d.n1 c1 d.n2 c2 d.n3 c3 d.l d.p d.t) d from ⟨⟨A0, A1, A2, A3, c0, c1, c2, c3, rfl, p0, p1, p2, p3⟩, b0, b1, b2, b3⟩).below X.K (Nat.le_refl _)).more X.K.size)
  have HS := Lib.hid (((show IsSt w w.heap.size (.agg (stC E0 E1 E2 E3 s.pods.length k0 s.mnts.length k1 s.devs.length k2 s.lks.length k3 s.ph s.co s.ck s.bo s.ba s.lb s.gd s.pr)) s from ⟨⟨E0, E1, E2, E3, k0, k1, k2, k3, rfl, q0, q1, q2, q3⟩, f0, f1, f2, f3⟩).below X.K (Nat.le_refl _)).more X.K.size)
  have Q0 := Lib.hid ((q0.below X.K (Nat.le_refl _)).more X.K.size)
  have Q1 := Lib.hid ((q1.below X.K (Nat.le_refl _)).more X.K.size)
  have Q3 := Lib.hid ((q3.below X.K (Nat.le_refl _)).more X.K.size)
  have F3 := Lib.hid f3
  unfold maxLen at b0 b1 b2 b3 f0 f1 f2 f3
  clear p0 p1 p2 p3 q0 q1 q2 q3
  have HE := Lib.hid (hE.below X.K)
  clear hE
  cases h1 : (s.ph != 1)
  · have H1 : Hid (s.ph = 1) := Lib.hid (by simpa using h1)
    go_enter Tryz.func122, Tryz.ntmps122
    go_upto_region 1 with fail
    generalize w.alloc (.cells (cmdC A0 A1 A2 A3 d.n0 c0 d.n1 c1 d.n2 c2 d.n3 c3 d.l d.p d.t E0 E1 E2 E3 s.pods.length k0 s.mnts.length k1 s.devs.length k2 s.lks.length k3 s.ph s.co s.ck s.bo s.ba s.lb s.gd s.pr a b) 106) = W at X HP HS Q0 Q1 Q3 HE ⊢
    have hC := X.C
    go_wp2
    all_goals (go_ret2; rw [phaseT, if_pos H1.out]; exact TryA.one 1 2 0 X.K)
  · have H1 : Hid (¬ s.ph = 1) := Lib.hid (by simpa using h1)
    go_enter Tryz.func122, Tryz.ntmps122
    go_upto_region 1 with fail
    generalize w.alloc (.cells (cmdC A0 A1 A2 A3 d.n0 c0 d.n1 c1 d.n2 c2 d.n3 c3 d.l d.p d.t E0 E1 E2 E3 s.pods.length k0 s.mnts.length k1 s.devs.length k2 s.lks.length k3 s.ph s.co s.ck s.bo s.ba s.lb s.gd s.pr a b) 106) = W at X HP HS Q0 Q1 Q3 HE ⊢
    have hC := X.C
    have hg := HE.out.p.1
    go_wp2_with fail
    go_quiet (fail)
    go_wp2
    all_goals (go_ret2; rw [phaseT, if_neg H1.out]; exact TryA.no .phase (below_drewN X.K _))

set_option maxRecDepth 4000 in
set_option maxHeartbeats 1000000 in
theorem awaits_any (v : Value) (d : PlanD) (s : StD) (a b : Int) (w : World) (h : IsCmd w w.heap.size v d s a b) :
    Calls Tryz.prog 167 #[v] w fun e w' => e = .returned (.bool (decide (s.ph = 1 ∨ s.ph = 2))) ∧ Below w.heap.size w w' := by
  obtain ⟨⟨A0, A1, A2, A3, c0, c1, c2, c3, E0, E1, E2, E3, k0, k1, k2, k3, rfl, ⟨p0, p1, p2, p3⟩, q0, q1, q2, q3⟩, ⟨b0, b1, b2, b3⟩, ⟨f0, f1, f2, f3⟩⟩ := h
  have X := Own.box w (cmdC A0 A1 A2 A3 d.n0 c0 d.n1 c1 d.n2 c2 d.n3 c3 d.l d.p d.t E0 E1 E2 E3 s.pods.length k0 s.mnts.length k1 s.devs.length k2 s.lks.length k3 s.ph s.co s.ck s.bo s.ba s.lb s.gd s.pr a b) 106
  have HP := Lib.hid (((show IsPlan w w.heap.size (planV A0 A1 A2 A3 d.n0 c0 d.n1 c1 d.n2 c2 d.n3 c3 d.l d.p d.t) d from ⟨⟨A0, A1, A2, A3, c0, c1, c2, c3, rfl, p0, p1, p2, p3⟩, b0, b1, b2, b3⟩).below X.K (Nat.le_refl _)).more X.K.size)
  have HS := Lib.hid (((show IsSt w w.heap.size (.agg (stC E0 E1 E2 E3 s.pods.length k0 s.mnts.length k1 s.devs.length k2 s.lks.length k3 s.ph s.co s.ck s.bo s.ba s.lb s.gd s.pr)) s from ⟨⟨E0, E1, E2, E3, k0, k1, k2, k3, rfl, q0, q1, q2, q3⟩, f0, f1, f2, f3⟩).below X.K (Nat.le_refl _)).more X.K.size)
  have Q0 := Lib.hid ((q0.below X.K (Nat.le_refl _)).more X.K.size)
  have Q1 := Lib.hid ((q1.below X.K (Nat.le_refl _)).more X.K.size)
  have Q3 := Lib.hid ((q3.below X.K (Nat.le_refl _)).more X.K.size)
  have F3 := Lib.hid f3
  unfold maxLen at b0 b1 b2 b3 f0 f1 f2 f3
  clear p0 p1 p2 p3 q0 q1 q2 q3
  cases h1 : (s.ph == 1)
  · have H1 : Hid (¬ s.ph = 1) := Lib.hid (by simpa using h1)
    cases h2 : (s.ph == 2)
    · have H2 : Hid (¬ s.ph = 2) := Lib.hid (by simpa using h2)
      go_enter Tryz.func167, Tryz.ntmps167
      go_upto_region 1 with fail
      generalize w.alloc (.cells (cmdC A0 A1 A2 A3 d.n0 c0 d.n1 c1 d.n2 c2 d.n3 c3 d.l d.p d.t E0 E1 E2 E3 s.pods.length k0 s.mnts.length k1 s.devs.length k2 s.lks.length k3 s.ph s.co s.ck s.bo s.ba s.lb s.gd s.pr a b) 106) = W at X HP HS Q0 Q1 Q3 ⊢
      have hC := X.C
      go_wp2
      all_goals (go_ret; exact ⟨ret_bool (by simp [H1.out, H2.out]), X.K⟩)
    · have H2 : Hid (s.ph = 2) := Lib.hid (by simpa using h2)
      go_enter Tryz.func167, Tryz.ntmps167
      go_upto_region 1 with fail
      generalize w.alloc (.cells (cmdC A0 A1 A2 A3 d.n0 c0 d.n1 c1 d.n2 c2 d.n3 c3 d.l d.p d.t E0 E1 E2 E3 s.pods.length k0 s.mnts.length k1 s.devs.length k2 s.lks.length k3 s.ph s.co s.ck s.bo s.ba s.lb s.gd s.pr a b) 106) = W at X HP HS Q0 Q1 Q3 ⊢
      have hC := X.C
      go_wp2
      all_goals (go_ret; exact ⟨ret_bool (by simp [H2.out]), X.K⟩)
  · have H1 : Hid (s.ph = 1) := Lib.hid (by simpa using h1)
    go_enter Tryz.func167, Tryz.ntmps167
    go_upto_region 1 with fail
    generalize w.alloc (.cells (cmdC A0 A1 A2 A3 d.n0 c0 d.n1 c1 d.n2 c2 d.n3 c3 d.l d.p d.t E0 E1 E2 E3 s.pods.length k0 s.mnts.length k1 s.devs.length k2 s.lks.length k3 s.ph s.co s.ck s.bo s.ba s.lb s.gd s.pr a b) 106) = W at X HP HS Q0 Q1 Q3 ⊢
    have hC := X.C
    go_wp2
    all_goals (go_ret; exact ⟨ret_bool (by simp [H1.out]), X.K⟩)

set_option maxRecDepth 4000 in
set_option maxHeartbeats 2000000 in
theorem lock_any (K O P S B : Addr) (v : Value) (d : PlanD) (s : StD) (a b : Int) (w : World) (h : IsCmd w w.heap.size v d s a b) (hE : Errs w K O P S B) :
    Calls Tryz.prog 126 #[v] w (TryA K O P S B w (lockT s a)) := by
  obtain ⟨⟨A0, A1, A2, A3, c0, c1, c2, c3, E0, E1, E2, E3, k0, k1, k2, k3, rfl, ⟨p0, p1, p2, p3⟩, q0, q1, q2, q3⟩, ⟨b0, b1, b2, b3⟩, ⟨f0, f1, f2, f3⟩⟩ := h
  have X := Own.box w (cmdC A0 A1 A2 A3 d.n0 c0 d.n1 c1 d.n2 c2 d.n3 c3 d.l d.p d.t E0 E1 E2 E3 s.pods.length k0 s.mnts.length k1 s.devs.length k2 s.lks.length k3 s.ph s.co s.ck s.bo s.ba s.lb s.gd s.pr a b) 106
  have HP := Lib.hid (((show IsPlan w w.heap.size (planV A0 A1 A2 A3 d.n0 c0 d.n1 c1 d.n2 c2 d.n3 c3 d.l d.p d.t) d from ⟨⟨A0, A1, A2, A3, c0, c1, c2, c3, rfl, p0, p1, p2, p3⟩, b0, b1, b2, b3⟩).below X.K (Nat.le_refl _)).more X.K.size)
  have HS := Lib.hid (((show IsSt w w.heap.size (.agg (stC E0 E1 E2 E3 s.pods.length k0 s.mnts.length k1 s.devs.length k2 s.lks.length k3 s.ph s.co s.ck s.bo s.ba s.lb s.gd s.pr)) s from ⟨⟨E0, E1, E2, E3, k0, k1, k2, k3, rfl, q0, q1, q2, q3⟩, f0, f1, f2, f3⟩).below X.K (Nat.le_refl _)).more X.K.size)
  have Q0 := Lib.hid ((q0.below X.K (Nat.le_refl _)).more X.K.size)
  have Q1 := Lib.hid ((q1.below X.K (Nat.le_refl _)).more X.K.size)
  have Q3 := Lib.hid ((q3.below X.K (Nat.le_refl _)).more X.K.size)
  have F3 := Lib.hid f3
  unfold maxLen at b0 b1 b2 b3 f0 f1 f2 f3
  clear p0 p1 p2 p3 q0 q1 q2 q3
  have HE := Lib.hid (hE.below X.K)
  clear hE
  go_enter Tryz.func126, Tryz.ntmps126
  go_upto_region 1 with fail
  generalize w.alloc (.cells (cmdC A0 A1 A2 A3 d.n0 c0 d.n1 c1 d.n2 c2 d.n3 c3 d.l d.p d.t E0 E1 E2 E3 s.pods.length k0 s.mnts.length k1 s.devs.length k2 s.lks.length k3 s.ph s.co s.ck s.bo s.ba s.lb s.gd s.pr a b) 106) = W at X HP HS Q0 Q1 Q3 HE ⊢
  have hC := X.C
  go_wp2_with fail
  refine (isIndex_any _ _ _).mono ?_
  rintro e w2 ⟨rfl, rfl⟩
  rw [show ((8 : Int) - 1) = 7 from rfl]
  have hg := HE.out.p.1
  have hg1 := HE.out.s.1
  cases hin : inB a 0 7
  · have HIN := Lib.hid hin
    clear hin
    go_wp2_with fail
    go_quiet (fail)
    go_wp2
    all_goals (go_ret2; rw [lockT, if_pos HIN.out]; exact TryA.no (.missing a) (below_drewN X.K _))
  · have HIN : Hid (¬ inB a 0 7 = false) := Lib.hid (by rw [hin]; decide)
    clear hin
    by_cases h3 : 3 ≤ s.ph
    · have H3 := Lib.hid h3
      go_wp2_with fail
      go_quiet (fail)
      go_wp2
      all_goals (go_ret2; rw [lockT, if_neg HIN.out, if_pos H3.out]; exact TryA.no .phase (below_drewN X.K _))
    · have H3 := Lib.hid h3
      go_wp2_with fail
      refine (contains_any s.lks E3 k3 a _ Q3.out F3.out).mono ?_
      rintro e w3 ⟨rfl, rfl⟩
      cases hc : s.lks.contains a
      · have HC := Lib.hid hc
        clear hc
        go_wp2
        all_goals (go_ret2; rw [lockT, if_neg HIN.out, if_neg (by have := H3.out; omega), if_neg (by rw [HC.out]; decide)]; exact TryA.one 6 a 0 X.K)
      · have HC := Lib.hid hc
        clear hc
        go_wp2_with fail
        go_quiet (fail)
        go_wp2
        all_goals (go_ret2; rw [lockT, if_neg HIN.out, if_neg (by have := H3.out; omega), if_pos HC.out]; exact TryA.no .state (below_drewN X.K _))

set_option maxRecDepth 4000 in
set_option maxHeartbeats 2000000 in
theorem unlock_any (K O P S B : Addr) (v : Value) (d : PlanD) (s : StD) (a b : Int) (w : World) (h : IsCmd w w.heap.size v d s a b) (hE : Errs w K O P S B) :
    Calls Tryz.prog 127 #[v] w (TryA K O P S B w (unlockT s a)) := by
  obtain ⟨⟨A0, A1, A2, A3, c0, c1, c2, c3, E0, E1, E2, E3, k0, k1, k2, k3, rfl, ⟨p0, p1, p2, p3⟩, q0, q1, q2, q3⟩, ⟨b0, b1, b2, b3⟩, ⟨f0, f1, f2, f3⟩⟩ := h
  have X := Own.box w (cmdC A0 A1 A2 A3 d.n0 c0 d.n1 c1 d.n2 c2 d.n3 c3 d.l d.p d.t E0 E1 E2 E3 s.pods.length k0 s.mnts.length k1 s.devs.length k2 s.lks.length k3 s.ph s.co s.ck s.bo s.ba s.lb s.gd s.pr a b) 106
  have HP := Lib.hid (((show IsPlan w w.heap.size (planV A0 A1 A2 A3 d.n0 c0 d.n1 c1 d.n2 c2 d.n3 c3 d.l d.p d.t) d from ⟨⟨A0, A1, A2, A3, c0, c1, c2, c3, rfl, p0, p1, p2, p3⟩, b0, b1, b2, b3⟩).below X.K (Nat.le_refl _)).more X.K.size)
  have HS := Lib.hid (((show IsSt w w.heap.size (.agg (stC E0 E1 E2 E3 s.pods.length k0 s.mnts.length k1 s.devs.length k2 s.lks.length k3 s.ph s.co s.ck s.bo s.ba s.lb s.gd s.pr)) s from ⟨⟨E0, E1, E2, E3, k0, k1, k2, k3, rfl, q0, q1, q2, q3⟩, f0, f1, f2, f3⟩).below X.K (Nat.le_refl _)).more X.K.size)
  have Q0 := Lib.hid ((q0.below X.K (Nat.le_refl _)).more X.K.size)
  have Q1 := Lib.hid ((q1.below X.K (Nat.le_refl _)).more X.K.size)
  have Q3 := Lib.hid ((q3.below X.K (Nat.le_refl _)).more X.K.size)
  have F3 := Lib.hid f3
  unfold maxLen at b0 b1 b2 b3 f0 f1 f2 f3
  clear p0 p1 p2 p3 q0 q1 q2 q3
  have HE := Lib.hid (hE.below X.K)
  clear hE
  go_enter Tryz.func127, Tryz.ntmps127
  go_upto_region 1 with fail
  generalize w.alloc (.cells (cmdC A0 A1 A2 A3 d.n0 c0 d.n1 c1 d.n2 c2 d.n3 c3 d.l d.p d.t E0 E1 E2 E3 s.pods.length k0 s.mnts.length k1 s.devs.length k2 s.lks.length k3 s.ph s.co s.ck s.bo s.ba s.lb s.gd s.pr a b) 106) = W at X HP HS Q0 Q1 Q3 HE ⊢
  have hC := X.C
  go_wp2_with fail
  refine (isIndex_any _ _ _).mono ?_
  rintro e w2 ⟨rfl, rfl⟩
  rw [show ((8 : Int) - 1) = 7 from rfl]
  have hg := HE.out.p.1
  have hg1 := HE.out.s.1
  cases hin : inB a 0 7
  · have HIN := Lib.hid hin
    clear hin
    go_wp2_with fail
    go_quiet (fail)
    go_wp2
    all_goals (go_ret2; rw [unlockT, if_pos HIN.out]; exact TryA.no (.missing a) (below_drewN X.K _))
  · have HIN : Hid (¬ inB a 0 7 = false) := Lib.hid (by rw [hin]; decide)
    clear hin
    go_wp2_with fail
    refine (contains_any s.lks E3 k3 a _ Q3.out F3.out).mono ?_
    rintro e w3 ⟨rfl, rfl⟩
    cases hc : s.lks.contains a
    · have HC := Lib.hid hc
      clear hc
      go_wp2_with fail
      go_quiet (fail)
      go_wp2
      all_goals (go_ret2; rw [unlockT, if_neg HIN.out, if_pos HC.out]; exact TryA.no .state (below_drewN X.K _))
    · have HC := Lib.hid hc
      clear hc
      go_wp2
      all_goals (go_ret2; rw [unlockT, if_neg HIN.out, if_neg (by rw [HC.out]; decide)]; exact TryA.one 7 a 0 X.K)
end Go.Proofs.YtobpjahjahlhpaaGreatDoor
