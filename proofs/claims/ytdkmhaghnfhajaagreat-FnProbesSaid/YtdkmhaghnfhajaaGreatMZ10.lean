/-
  The model's copy of an agent.
-/
import Derived.Test.YtdkmhaghnfhajaaGreatMZ9
import Derived.Deep.DeepCutAuto
import Derived.Test.YtdkmhaghnfhajaaGreatMZ6
import Derived.Test.YtdkmhaghnfhajaaGreatMZ8
import Derived.Test.YtdkmhaghnfhajaaGreatMZ7
import Derived.Deep.RegionHeld3
import Derived.Laws.Tables
import Derived.Laws.CopyOwn
/- Wk -/
set_option linter.unusedVariables false
namespace Go.Proofs.YtdkmhaghnfhajaaGreat
open Go.RowKit

/-- What a pod of the band becomes. -/
def elemG (d : PlanD) (s : StD) (c : Int) (i : Int) : Option RecD :=
  if aliveB (podAt s i.toNat).1 then (if podStep (hookOf d i.toNat) (graceOf d i.toNat) (podAt s i.toNat) c = (podAt s i.toNat).1 then none else some ⟨2, i, podStep (hookOf d i.toNat) (graceOf d i.toNat) (podAt s i.toNat) c⟩) else none
theorem podsL_hits {d : PlanD} (h : planOkB d = true) (b : Int) : podsL d b = ((List.range d.n0).filter (fun i => bandOf d i == b)).map (fun i : Nat => (i : Int)) := by
  unfold podsL
  rw [found_yes h]
  rfl
theorem elem_recs {d : PlanD} {s : StD} (h : planOkB d = true) (b c : Int) : (podsL d b).filterMap (elemG d s c) = recsOf d.n0 (stepG d s b c) (fun i x => ⟨2, i, x⟩) := by
  rw [podsL_hits h, List.filterMap_map, List.filterMap_filter]
  unfold recsOf
  congr 1
  funext i
  simp only [Function.comp, elemG, stepG, Int.toNat_natCast, beq_iff_eq]
  by_cases h1 : bandOf d i = b
  · by_cases h2 : aliveB (podAt s i).1 = true
    · by_cases h3 : podStep (hookOf d i) (graceOf d i) (podAt s i) c = (podAt s i).1 <;> simp [h1, h2, h3]
    · simp [h1, h2]
  · simp [h1]
theorem elem_live {d : PlanD} {s : StD} (h : planOkB d = true) (b : Int) : (podsL d b).any (fun i => aliveB (podAt s i.toNat).1) = liveB d s b := by
  rw [podsL_hits h, List.any_map, List.any_filter]
  unfold liveB
  congr 1
theorem elem_none {d : PlanD} {s : StD} {c : Int} : ∀ {L : List Int}, L.any (fun i => aliveB (podAt s i.toNat).1) = false → L.filterMap (elemG d s c) = []
  | [], _ => rfl
  | i :: L, h => by
    rw [List.any_cons, Bool.or_eq_false_iff] at h
    rw [List.filterMap_cons, elem_none h.2]
    unfold elemG
    rw [h.1]
    rfl
theorem podsL_in {d : PlanD} {b : Int} {k : Nat} (hk : k < (podsL d b).length) : ∃ i : Nat, (podsL d b)[k]? = some (i : Int) ∧ i < d.n0 := by
  obtain ⟨i, hi, e, -⟩ := podsL_at hk
  rw [List.getD_eq_getElem?_getD, List.getElem?_eq_getElem hk] at e
  exact ⟨i, by rw [List.getElem?_eq_getElem hk]; exact congrArg some e, hi⟩
theorem list_at {w : World} {B n c : Nat} {A : Option Addr} {L : List Int} (h : w.ownsRow B 2 1 (.slice A n c) n (L.map (Value.int .i64))) {k : Nat} {x : Int} (hx : L[k]? = some x) :
    ∃ b off, A = some ⟨b, off, none⟩ ∧ b < w.heap.size ∧ w.cell? ⟨b, off + k, none⟩ = some (.int .i64 x) := by
  obtain ⟨A', c', e, -, S⟩ := open_rowR h
  injection e with e1 e2 e3
  subst e1 e3
  have hl := S.len
  have hk : k < L.length := (List.getElem?_eq_some_iff.1 hx).1
  obtain ⟨b, off, rfl, hb, hc⟩ := S.cell (i := k) (by simp at hl; omega)
  have := hc 0 (by decide)
  rw [Nat.add_zero, Nat.mul_one, Nat.add_zero] at this
  exact ⟨b, off, rfl, hb, this.trans (by simp [hx])⟩
theorem two_row {w : World} {g : Nat} {x y : Value} {t : TypeId} (h : w.heap[g]? = some (.cells #[x, y] t)) : ∀ o, w.cell? ⟨g, o, none⟩ = #[x, y][o]? := fun o => cell_of_row _ _ _ _ _ _ h
theorem take_at {L : List Int} {k : Nat} {i : Int} (h : L[k]? = some i) : L.take (k + 1) = L.take k ++ [i] := by
  rw [List.take_add_one, h]
  rfl
theorem shutL_live {d : PlanD} {s : StD} {c : Int} (hp : planOkB d = true) (h1 : ¬ (s.lks ≠ [] ∧ c < s.lb)) (h2 : ¬ s.ba = 6) (h3 : (podsL d s.ba).any (fun i => aliveB (podAt s i.toNat).1) = true) : shutL d s c = (podsL d s.ba).filterMap (elemG d s c) := by
  unfold shutL
  rw [if_neg h1, if_neg h2, if_pos (by rw [← elem_live hp]; exact h3), elem_recs hp]
theorem shutL_dead {d : PlanD} {s : StD} {c : Int} (hp : planOkB d = true) (h1 : ¬ (s.lks ≠ [] ∧ c < s.lb)) (h2 : ¬ s.ba = 6) (h3 : (podsL d s.ba).any (fun i => aliveB (podAt s i.toNat).1) = false) : shutL d s c = (podsL d s.ba).filterMap (elemG d s c) ++ [⟨9, nextB d s.ba, 0⟩] := by
  unfold shutL
  rw [if_neg h1, if_neg h2, if_neg (by rw [← elem_live hp, h3]; decide), elem_none h3]
  rfl

set_option maxRecDepth 4000 in
set_option maxHeartbeats 16000000 in
theorem l11Shutting_any (pv sv : Value) (d : PlanD) (s : StD) (c : Int) (w : World) (hp : IsPlan w w.heap.size pv d) (hs : IsSt w w.heap.size sv s) (hok : StOk d s) (hc : 0 ≤ c ∧ c ≤ 1000001) :
    Calls Tryz.prog 131 #[pv, sv, .int .i64 c] w fun e w' => ∃ v, e = .returned v ∧ OR w' w.heap.size v (shutL d s c) ∧ Below w.heap.size w w' := by
  have HP := Lib.hid hp
  have HS := Lib.hid hs
  obtain ⟨⟨P0, P1, P2, P3, k0, k1, k2, k3, rfl, s0, s1, s2, s3⟩, b0, b1, b2, b3⟩ := hp
  obtain ⟨⟨A0, A1, A2, A3, c0, c1, c2, c3, rfl, t0, t1, t2, t3⟩, f0, f1, f2, f3⟩ := hs
  have S0 := Lib.hid s0
  have S1 := Lib.hid s1
  have S2 := Lib.hid s2
  have S3 := Lib.hid s3
  have R0 := Lib.hid t0
  have R1 := Lib.hid t1
  have R2 := Lib.hid t2
  have R3 := Lib.hid t3
  unfold maxLen at b0 b1 b2 b3 f0 f1 f2 f3
  clear s0 s1 s2 s3 t0 t1 t2 t3
  have T0 := Two.start w (planC P0 P1 P2 P3 d.n0 k0 d.n1 k1 d.n2 k2 d.n3 k3 d.l d.p d.t) (stC A0 A1 A2 A3 s.pods.length c0 s.mnts.length c1 s.devs.length c2 s.lks.length c3 s.ph s.co s.ck s.bo s.ba s.lb s.gd s.pr) 29 38
  have OK := Lib.hid hok
  have HNP := Lib.hid hok.np
  have HSZ := Lib.hid (size_ok hok.plan)
  have HCK := Lib.hid hc
  clear hok hc
  obtain ⟨ans, hans⟩ : ∃ ans, shutL d s c = ans := ⟨_, rfl⟩
  rw [hans]
  have HANS := Lib.hid hans
  clear hans
  obtain ⟨T1, O1⟩ := recs_start w (planC P0 P1 P2 P3 d.n0 k0 d.n1 k1 d.n2 k2 d.n3 k3 d.l d.p d.t) (stC A0 A1 A2 A3 s.pods.length c0 s.mnts.length c1 s.devs.length c2 s.lks.length c3 s.ph s.co s.ck s.bo s.ba s.lb s.gd s.pr) 29 38
  have hC := T1.A.C
  have hD := T1.O.C
  clear T0
  have HO := Lib.hid O1
  have HT := Lib.hid T1
  have HE : Hid (s.lks ≠ [] ↔ 0 < s.lks.length) := Lib.hid List.length_pos_iff.symm
  by_cases hwait : 0 < s.lks.length ∧ c < s.lb
  · obtain ⟨hl1, hl2⟩ := hwait
    have HW : Hid (s.lks ≠ [] ∧ c < s.lb) := Lib.hid ⟨HE.out.2 hl1, hl2⟩
    go_enter Tryz.func131, Tryz.ntmps131
    go_wp2
    all_goals (go_ret; exact ⟨_, rfl, by rw [← HANS.out, shutL, if_pos HW.out]; exact HO.out.base (by omega), HT.out.A.K⟩)
  · have HW : Hid (¬ (s.lks ≠ [] ∧ c < s.lb)) := Lib.hid fun h => hwait ⟨HE.out.1 h.1, h.2⟩
    cases h6 : (s.ba == 6)
    case true =>
      have H6 : Hid (s.ba = 6) := Lib.hid (by simpa using h6)
      by_cases hl : 0 < s.lks.length
      all_goals
        try (have hlb : ¬ c < s.lb := fun h => hwait ⟨hl, h⟩)
        clear hwait
        go_enter Tryz.func131, Tryz.ntmps131
        go_wp2_with (at_builtin; refine append_rec 1 4 0 _ _ rfl rfl rfl HO.out (by simp) rfl (by decide) HT.out.O.z ?_; rintro v' w' O' hb' -)
        all_goals (go_ret; exact ⟨_, rfl, by rw [← HANS.out, shutL, if_neg HW.out, if_pos H6.out]; exact O'.base (by omega), (HT.out.low hb' (Nat.le_refl _)).A.K⟩)
    case false =>
      have H6 : Hid (¬ s.ba = 6) := Lib.hid (by simpa using h6)
      have HLV := Lib.hid (fun h3 => (shutL_live OK.out.plan HW.out H6.out h3).symm.trans HANS.out)
      have HDD := Lib.hid (fun h3 => (shutL_dead OK.out.plan HW.out H6.out h3).symm.trans HANS.out)
      by_cases hl : 0 < s.lks.length
      all_goals
        try (have hlb : ¬ c < s.lb := fun h => hwait ⟨hl, h⟩)
        clear hwait
        go_enter Tryz.func131, Tryz.ntmps131
        go_wp2_with fail
        refine (specPods_any _ d _ _ ((HP.out.below HT.out.A.K (Nat.le_refl _)).more HT.out.A.K.size) (by have := HSZ.out; omega)).mono ?_
        rintro e w2 ⟨vL, rfl, OL, hb⟩
        have T2 := HT.out.step hb
        have O2 := HO.out.below hb
        have HPL := Lib.hid (fun (k : Nat) (hk : k < (podsL d s.ba).length) => podsL_in hk)
        have HPN : Hid ((podsL d s.ba).length ≤ 12) := Lib.hid (by have := podsL_le d s.ba; have := HSZ.out; omega)
        have hlen : (podsL d s.ba).length ≤ 2 ^ 63 - 1 := by have := HPN.out; omega
        have hba := OK.out.ba
        clear hb hC hD O1 T1 h6
        obtain ⟨AL, cL, rfl, -, SL⟩ := open_rowR OL
        clear SL
        generalize podsL d s.ba = L at OL HLV HDD HPL HPN hlen ⊢
        have OL := ownsRow_base OL HT.out.O.z
        go_wp2_with fail
        go_loopw [7, 8, 10] (fun v lv j wr => ∃ k : Nat, k ≤ L.length ∧ j = .int .i64 k ∧ lv = .bool ((L.take k).any (fun i => aliveB (podAt s i.toNat).1)) ∧ Hid (OR wr (w.heap.size + 2) v ((L.take k).filterMap (elemG d s c))) ∧
          Hid (wr.ownsRow (w.heap.size + 2) 2 1 (.slice AL L.length cL) L.length (L.map (Value.int .i64))) ∧ Two w wr (planC P0 P1 P2 P3 d.n0 k0 d.n1 k1 d.n2 k2 d.n3 k3 d.l d.p d.t) (stC A0 A1 A2 A3 s.pods.length c0 s.mnts.length c1 s.devs.length c2 s.lks.length c3 s.ph s.co s.ck s.bo s.ba s.lb s.gd s.pr)) (fun _ _ j _ => L.length - (intOf j).toNat)
        case atStart => exact ⟨0, Nat.zero_le _, rfl, by simp, Lib.hid (by simpa using O2), Lib.hid OL, T2⟩
        case round =>
          clear O2 OL T2 HT HO
          obtain ⟨k, hk, rfl, rfl, HO, HOL, T⟩ := hrel
          have hC := T.A.C
          have hD := T.O.C
          by_cases hlt : k < L.length
          · obtain ⟨i, hLi, hi⟩ := HPL.out k hlt
            have hlp : i < s.pods.length := by rw [HNP.out]; exact hi
            have HLI := Lib.hid hLi
            obtain ⟨bl, ol, rfl, hbl, q0⟩ := list_at HOL.out hLi
            clear hLi
            obtain ⟨b', off', rfl, hb', hc⟩ := (R0.out.below T.A.K (Nat.le_refl _)).cell hlp
            have p0 := (hc 0 (by decide)).trans (podCs_at s.pods (i := i) hlp).1
            have p1 := (hc 1 (by decide)).trans (podCs_at s.pods (i := i) hlp).2
            rw [Nat.add_zero] at p0
            clear hc
            have hpo := (podAt_ok OK.out hi).2
            have HEL : Hid (elemG d s c (i : Int) = if aliveB (podA s.pods i).1 then (if podStep (d.x0 (i * 4 + 3)) (d.x0 (i * 4 + 2)) (podA s.pods i) c = (podA s.pods i).1 then none else some ⟨2, i, podStep (d.x0 (i * 4 + 3)) (d.x0 (i * 4 + 2)) (podA s.pods i) c⟩) else none) := Lib.hid (by unfold elemG; rw [Int.toNat_natCast]; rfl)
            have HA1 : Hid ((L.take (k + 1)).any (fun i => aliveB (podAt s i.toNat).1) = ((L.take k).any (fun i => aliveB (podAt s i.toNat).1) || aliveB (podA s.pods i).1)) := Lib.hid (by
              rw [take_at HLI.out, List.any_append]; simp [podAt, podA])
            have HF1 : Hid ((L.take (k + 1)).filterMap (elemG d s c) = (L.take k).filterMap (elemG d s c) ++ (match elemG d s c (i : Int) with | some r => [r] | none => [])) := Lib.hid (by
              rw [take_at HLI.out, List.filterMap_append]
              cases he : elemG d s c (i : Int) <;> simp [he])
            have HLE : Hid (((L.take k).filterMap (elemG d s c)).length ≤ 12) := Lib.hid (by
              have := List.length_filterMap_le (elemG d s c) (L.take k)
              have h2 : (L.take k).length ≤ L.length := by rw [List.length_take]; omega
              have := HPN.out
              omega)
            generalize elemG d s c (i : Int) = el at HEL HF1
            rw [show podAt s i = podA s.pods i from rfl] at hpo
            generalize podA s.pods i = q at p0 p1 HEL HA1 hpo
            obtain ⟨x, y⟩ := q
            dsimp only at p0 p1 HEL HA1 hpo
            have hz := T.A.z
            have hz' := T.O.z
            have hbw : b' < wr.heap.size := Nat.lt_of_lt_of_le hb' T.A.K.size
            go_wp2_with fail
            go_cut [11] from 43 to 50 (fun s11 wx => ∃ g, s11 = .pointer (some ⟨g, 0, none⟩) ∧ wx.heap[g]? = some (.cells #[.int .i64 x, .int .i64 y] 67) ∧ Below wr.heap.size wr wx)
            case first =>
              go_region
              all_goals (go_wp2_with fail; go_meet)
              all_goals
                apply Exists.intro
                refine ⟨rfl, ?h3, ?hb⟩
                case h3 => repeat (first | exact alloc_here (by simp) | refine (alloc_there (by simp <;> omega)).trans ?_)
                case hb => repeat (first | exact Below.refl _ _ | refine Below.drew ?_ | refine Below.alloc ?_ (by simp <;> omega) _)
            case rest =>
              obtain ⟨g, rfl, hg, Kx⟩ := hcut
              have T2 := T.step Kx
              have HO2 := Lib.hid (HO.out.below Kx)
              have HOL2 := Lib.hid (ownsRow_below HOL.out Kx)
              have XB := two_row hg
              have hgz : g < wc.heap.size := (Array.getElem?_eq_some_iff.1 hg).1
              have r0 := (Kx.cell (p := ⟨bl, ol + k, none⟩) hbl).trans q0
              have hblc := Nat.lt_of_lt_of_le hbl Kx.size
              clear T HO HOL hC hD hz hz' q0 p0 p1 hbl hbw hb'
              have hC := T2.A.C
              have hD := T2.O.C
              go_wp2_with fail
              refine (alive_any _ _).mono ?_
              rintro e w5 ⟨rfl, rfl⟩
              cases ha : aliveB x
              · have HAL := Lib.hid ha
                clear ha
                go_wp2
                refine ⟨⟨k + 1, by omega, by go_num, by rw [HA1.out, HAL.out, Bool.or_false], Lib.hid (by rw [HF1.out, HEL.out, HAL.out]; simpa using HO2.out), HOL2, T2⟩, by simp [intOf]; omega⟩
              · have HAL := Lib.hid ha
                clear ha
                obtain ⟨bp, op, rfl, hbp, g0, g1, g2, g3⟩ := (S0.out.own T2.A).cell4 hi
                have hck := HCK.out
                go_wp2_with fail
                have Q0 : (∀ o, wc.cell? ⟨w.heap.size, o, none⟩ = (planC (some ⟨bp, op, none⟩) P1 P2 P3 d.n0 k0 d.n1 k1 d.n2 k2 d.n3 k3 d.l d.p d.t)[o]?) ∧ (∀ o, wc.cell? ⟨g, o, none⟩ = #[Value.int .i64 x, .int .i64 y][o]?) ∧ wc.cell? ⟨bl, ol + k, none⟩ = some (.int .i64 i) ∧ wc.cell? ⟨bp, op + i * 4, none⟩ = some (.int .i64 (d.x0 (i * 4))) ∧ wc.cell? ⟨bp, op + i * 4 + 1, none⟩ = some (.int .i64 (d.x0 (i * 4 + 1))) ∧ wc.cell? ⟨bp, op + i * 4 + 2, none⟩ = some (.int .i64 (d.x0 (i * 4 + 2))) ∧ wc.cell? ⟨bp, op + i * 4 + 3, none⟩ = some (.int .i64 (d.x0 (i * 4 + 3))) ∧ Below wc.heap.size wc wc := ⟨T2.A.C, XB, r0, g0, g1, g2, g3, Below.refl _ _⟩
                clear hC hD XB r0 g0 g1 g2 g3
                go_region_held3 (fun w' => (∀ o, w'.cell? ⟨w.heap.size, o, none⟩ = (planC (some ⟨bp, op, none⟩) P1 P2 P3 d.n0 k0 d.n1 k1 d.n2 k2 d.n3 k3 d.l d.p d.t)[o]?) ∧ (∀ o, w'.cell? ⟨g, o, none⟩ = #[Value.int .i64 x, .int .i64 y][o]?) ∧ w'.cell? ⟨bl, ol + k, none⟩ = some (.int .i64 i) ∧ w'.cell? ⟨bp, op + i * 4, none⟩ = some (.int .i64 (d.x0 (i * 4))) ∧ w'.cell? ⟨bp, op + i * 4 + 1, none⟩ = some (.int .i64 (d.x0 (i * 4 + 1))) ∧ w'.cell? ⟨bp, op + i * 4 + 2, none⟩ = some (.int .i64 (d.x0 (i * 4 + 2))) ∧ w'.cell? ⟨bp, op + i * 4 + 3, none⟩ = some (.int .i64 (d.x0 (i * 4 + 3))) ∧ Below wc.heap.size wc w')
                  (first | exact Q2 | exact Q0 | exact ⟨Q0.1, Q0.2.1, Q0.2.2.1, Q0.2.2.2.1, Q0.2.2.2.2.1, Q0.2.2.2.2.2.1, Q0.2.2.2.2.2.2.1, Q0.2.2.2.2.2.2.2.drew⟩)
                  (first
                    | (go_at_call 138
                       have K0 : Below wc.heap.size wc wc.drew := (Below.refl _ _).drew
                       refine (podStep_any _ _ _ _ _ _ _ _ hpo hck).mono ?_
                       rintro e w6 ⟨rfl, hb6⟩
                       have K1 : Below wc.heap.size wc w6 := K0.trans hb6
                       have Q2 := And.intro (T2.step K1).A.C (And.intro (fun o => (K1.cell (p := ⟨g, o, none⟩) hgz).trans (Q0.2.1 o)) (And.intro ((K1.cell (p := ⟨bl, ol + k, none⟩) hblc).trans Q0.2.2.1) (And.intro ((K1.cell (p := ⟨bp, op + i * 4, none⟩) hbp).trans Q0.2.2.2.1) (And.intro ((K1.cell (p := ⟨bp, op + i * 4 + 1, none⟩) hbp).trans Q0.2.2.2.2.1) (And.intro ((K1.cell (p := ⟨bp, op + i * 4 + 2, none⟩) hbp).trans Q0.2.2.2.2.2.1) (And.intro ((K1.cell (p := ⟨bp, op + i * 4 + 3, none⟩) hbp).trans Q0.2.2.2.2.2.2.1) K1))))))))
                have T3 := T2.step K1
                have HO3 := Lib.hid (HO2.out.below K1)
                have HOL3 := Lib.hid (ownsRow_below HOL2.out K1)
                have XB := Q2.2.1
                have r0 := Q2.2.2.1
                clear Q0 Q2 K0 K1 hb6 T2 HO2 HOL2
                rename_i hHeld
                clear hHeld
                have hC := T3.A.C
                have hD := T3.O.C
                generalize podStep (d.x0 (i * 4 + 3)) (d.x0 (i * 4 + 2)) (x, y) c = st at HEL ⊢
                cases hst : (st != x)
                · have HST : Hid (st = x) := Lib.hid (by simpa using hst)
                  go_wp2
                  refine ⟨⟨k + 1, by omega, by go_num, by rw [HA1.out, HAL.out, Bool.or_true], Lib.hid (by rw [HF1.out, HEL.out, HAL.out, if_pos rfl, if_pos HST.out]; simpa using HO3.out), HOL3, T3⟩, by simp [intOf]; omega⟩
                · have HST : Hid (¬ st = x) := Lib.hid (by simpa using hst)
                  go_wp2_with (at_builtin; refine append_rec 2 i st _ _ rfl rfl rfl HO3.out rfl rfl (by have := HLE.out; omega) T3.O.z ?_; rintro v' w' O' hb' hk')
                  refine ⟨⟨k + 1, by omega, by go_num, by rw [HA1.out, HAL.out, Bool.or_true], Lib.hid (by rw [HF1.out, HEL.out, HAL.out, if_pos rfl, if_neg HST.out]; exact O'), Lib.hid (ownsRow_keeps HOL3.out hk' fun r hr e => absurd (row_type HOL3.out HO3.out hr e) (by decide)), T3.low hb' (Nat.le_refl _)⟩, by simp [intOf]; omega⟩
          · obtain rfl : k = L.length := by omega
            rw [List.take_length] at HO ⊢
            cases hv : L.any (fun i => aliveB (podAt s i.toNat).1)
            · have HV := Lib.hid (HDD.out hv)
              clear hv
              go_wp2_with fail
              refine (specNext_any _ d _ _ ((HP.out.below T.A.K (Nat.le_refl _)).more T.A.K.size) (by have := HSZ.out; omega)).mono ?_
              rintro e w5 ⟨rfl, hb⟩
              have T5 := T.step hb
              have HO5 := Lib.hid (HO.out.below hb)
              have HLE : Hid ((L.filterMap (elemG d s c)).length ≤ 12) := Lib.hid (by
                have := List.length_filterMap_le (elemG d s c) L
                have := HPN.out
                omega)
              clear hb hC hD T
              have HB : Hid (nextB d s.ba = if nextL d s.ba < 0 then 6 else nextL d s.ba) := Lib.hid rfl
              generalize nextL d s.ba = nb at HB ⊢
              by_cases hnb : nb < 0
              · have HN := Lib.hid hnb
                go_wp2_with (at_builtin; refine append_rec 9 6 0 _ _ rfl rfl rfl HO5.out rfl rfl (by have := HLE.out; omega) T5.O.z ?_; rintro v' w' O' hb' -)
                all_goals (go_ret; exact ⟨_, rfl, by rw [← HV.out, HB.out, if_pos (by have := HN.out; omega)]; exact O'.base (by omega), (T5.low hb' (Nat.le_refl _)).A.K⟩)
              · have HN := Lib.hid hnb
                go_wp2_with (at_builtin; refine append_rec 9 nb 0 _ _ rfl rfl rfl HO5.out rfl rfl (by have := HLE.out; omega) T5.O.z ?_; rintro v' w' O' hb' -)
                all_goals (go_ret; exact ⟨_, rfl, by rw [← HV.out, HB.out, if_neg (by have := HN.out; omega)]; exact O'.base (by omega), (T5.low hb' (Nat.le_refl _)).A.K⟩)
            · have HV := Lib.hid (HLV.out hv)
              clear hv
              go_wp2
              all_goals (go_ret; exact ⟨_, rfl, by rw [← HV.out]; exact HO.out.base (by omega), T.A.K⟩)
end Go.Proofs.YtdkmhaghnfhajaaGreat
/- Zd -/
set_option linter.unusedVariables false
namespace Go.Proofs.YtdkmhaghnfhajaaGreat
open Go.RowKit

/-- The cells of an agent. -/
abbrev agC (p0 p1 p2 p3 : Value) (l p t ph : Int) (co : Bool) (ck bo ba lb : Int) (s0 s1 s2 s3 : Value) (gd pr : Int) (b : Value) : Array Value :=
  #[p0, p1, p2, p3, .int .i64 l, .int .i64 p, .int .i64 t, .int .i64 ph, .bool co, .int .i64 ck, .int .i64 bo, .int .i64 ba, .int .i64 lb, s0, s1, s2, s3, .int .i64 gd, .int .i64 pr, b]
/-- An agent that can be read below block B. -/
structure IsAg (w : World) (B : Nat) (v : Value) (d : PlanD) (s : StD) (st : List Nat) : Prop where
  it : ∃ p0 p1 p2 p3 s0 s1 s2 s3 b, v = .agg (agC p0 p1 p2 p3 d.l d.p d.t s.ph s.co s.ck s.bo s.ba s.lb s0 s1 s2 s3 s.gd s.pr b) ∧ IsPlR w B (.agg #[p0, p1, p2, p3, .int .i64 d.l, .int .i64 d.p, .int .i64 d.t]) d ∧ IsStR w B (.agg #[.int .i64 s.ph, .bool s.co, .int .i64 s.ck, .int .i64 s.bo, .int .i64 s.ba, .int .i64 s.lb, s0, s1, s2, s3, .int .i64 s.gd, .int .i64 s.pr]) s ∧ Bt w B b st ∧ Real b
theorem IsAg.below {w w' : World} {B B' : Nat} {v : Value} {d : PlanD} {s : StD} {st : List Nat} (h : IsAg w B v d s st) (hb : Below B' w w') (hB : B ≤ B') : IsAg w' B v d s st := by
  obtain ⟨p0, p1, p2, p3, s0, s1, s2, s3, b, hv, h0, h1, h2, h3⟩ := h.it
  exact ⟨p0, p1, p2, p3, s0, s1, s2, s3, b, hv, h0.below hb hB, h1.below hb hB, h2.below hb hB, h3⟩
theorem IsAg.more {w : World} {B B' : Nat} {v : Value} {d : PlanD} {s : StD} {st : List Nat} (h : IsAg w B v d s st) (hB : B ≤ B') : IsAg w B' v d s st := by
  obtain ⟨p0, p1, p2, p3, s0, s1, s2, s3, b, hv, h0, h1, h2, h3⟩ := h.it
  exact ⟨p0, p1, p2, p3, s0, s1, s2, s3, b, hv, h0.more hB, h1.more hB, h2.more hB, h3⟩
theorem IsAg.go {w w' : World} {v : Value} {d : PlanD} {s : StD} {st : List Nat} (h : IsAg w w.heap.size v d s st) (hb : Below w.heap.size w w') : IsAg w' w'.heap.size v d s st := (h.below hb (Nat.le_refl _)).more hb.size
/-- Two rows of one type lie in blocks of their own. -/
def Apart (u v : Value) : Prop := ∀ r, u.ownBlock = some r → v.ownBlock = some r → False
/-- An agent of the call's own. -/
structure OwnAg (w : World) (B : Nat) (v : Value) (d : PlanD) (s : StD) (st : List Nat) : Prop where
  it : ∃ p0 p1 p2 p3 s0 s1 s2 s3 b, v = .agg (agC p0 p1 p2 p3 d.l d.p d.t s.ph s.co s.ck s.bo s.ba s.lb s0 s1 s2 s3 s.gd s.pr b) ∧ Lists w B p0 p1 p2 p3 d ∧ OwnSt w B (.agg #[.int .i64 s.ph, .bool s.co, .int .i64 s.ck, .int .i64 s.bo, .int .i64 s.ba, .int .i64 s.lb, s0, s1, s2, s3, .int .i64 s.gd, .int .i64 s.pr]) s ∧ OB w B b st ∧ Apart p1 s3
theorem OwnAg.below {w w' : World} {B : Nat} {v : Value} {d : PlanD} {s : StD} {st : List Nat} (h : OwnAg w B v d s st) (hb : Below w.heap.size w w') : OwnAg w' B v d s st := by
  obtain ⟨p0, p1, p2, p3, s0, s1, s2, s3, b, hv, h0, h1, h2, h4⟩ := h.it
  exact ⟨p0, p1, p2, p3, s0, s1, s2, s3, b, hv, h0.below hb, h1.below hb, h2.below hb, h4⟩
theorem OwnAg.base {w : World} {B B' : Nat} {v : Value} {d : PlanD} {s : StD} {st : List Nat} (h : OwnAg w B v d s st) (hB : B' ≤ B) : OwnAg w B' v d s st := by
  obtain ⟨p0, p1, p2, p3, s0, s1, s2, s3, b, hv, h0, h1, h2, h4⟩ := h.it
  exact ⟨p0, p1, p2, p3, s0, s1, s2, s3, b, hv, h0.base hB, h1.base hB, h2.base hB, h4⟩
theorem OwnAg.is {w : World} {B : Nat} {v : Value} {d : PlanD} {s : StD} {st : List Nat} (h : OwnAg w B v d s st) (hd : PlFits d) (hs : StFits s 1048576) : IsAg w w.heap.size v d s st := by
  obtain ⟨p0, p1, p2, p3, s0, s1, s2, s3, b, hv, h0, h1, h2, h4⟩ := h.it
  exact ⟨p0, p1, p2, p3, s0, s1, s2, s3, b, hv, h0.plR hd, h1.isR hs, h2.bt, h2.real⟩
theorem row_grown {w w' : World} {B e k n B' e' k' n' : Nat} {v v' : Value} {xs xs' : List Value} (h : w.ownsRow B e k v n xs) (h' : w.ownsRow B' e' k' v' n' xs') (hne : e' ≠ e) (hg : w.grownBy w' v'.ownBlock) : w'.ownsRow B e k v n xs :=
  ownsRow_keeps (S := fun b => v'.ownBlock = some b) h ⟨hg.os, hg.tape, hg.output, hg.size, fun b hb hn => hg.block b hb fun e => hn e.symm⟩ fun r hr hs => hne (row_type h' h hs hr)
theorem Lists.grown {w w' : World} {B B' : Nat} {v0 v1 v2 v3 u : Value} {d : PlanD} {M : List Nat} (h : Lists w B v0 v1 v2 v3 d) (h' : OB w B' u M) (hg : w.grownBy w' u.ownBlock) : Lists w' B v0 v1 v2 v3 d := by
  obtain ⟨⟨a, ha, ha'⟩, ⟨b, hb1, hb2⟩, ⟨c, hc, hc'⟩, ⟨e, he, he'⟩⟩ := h
  exact ⟨⟨a, row_grown ha h'.own (by decide) hg, ha'⟩, ⟨b, row_grown hb1 h'.own (by decide) hg, hb2⟩, ⟨c, row_grown hc h'.own (by decide) hg, hc'⟩, ⟨e, row_grown he h'.own (by decide) hg, he'⟩⟩
theorem OwnSt.grown {w w' : World} {B B' : Nat} {v u : Value} {s : StD} {M : List Nat} (h : OwnSt w B v s) (h' : OB w B' u M) (hg : w.grownBy w' u.ownBlock) : OwnSt w' B v s := by
  obtain ⟨v0, v1, v2, v3, hv, h0, h1, h2, h3⟩ := h.it
  exact ⟨v0, v1, v2, v3, hv, row_grown h0 h'.own (by decide) hg, row_grown h1 h'.own (by decide) hg, row_grown h2 h'.own (by decide) hg, row_grown h3 h'.own (by decide) hg⟩
theorem OI.lt {w : World} {B e k n : Nat} {v : Value} {x : Nat → Int} (h : OI w B e k v n x) {r : Nat} (hr : v.ownBlock = some r) : r < w.heap.size := by
  obtain ⟨cs, hb⟩ := h.block hr
  exact (Array.getElem?_eq_some_iff.1 hb).1
theorem apart_of {w W : World} {B e k n e' k' n' : Nat} {u v : Value} {x : Nat → Int} {xs : List Value} (h : OI w B e k u n x) (h' : W.ownsRow w.heap.size e' k' v n' xs) : Apart u v := fun r h1 h2 => by
  have := h.lt h1
  have := (h'.lt r h2).1
  omega
/-- A world reached from the one at hand. -/
def From {w wc : World} (_ : Below w.heap.size w wc) (W : World) : Prop := Below wc.heap.size wc W
abbrev endOf {w wc : World} (_ : Below w.heap.size w wc) : World := wc
theorem From.same {w wc : World} (K : Below w.heap.size w wc) : From K wc := Below.refl _ _
theorem From.drew {w wc : World} (K : Below w.heap.size w wc) : From K wc.drew := (Below.refl _ _).drew
theorem From.alloc {w wc : World} (K : Below w.heap.size w wc) (ob : Obj) : From K (wc.alloc ob) := (Below.refl _ _).alloc (Nat.le_refl _) ob
theorem From.it {w wc W : World} {K : Below w.heap.size w wc} (h : From K W) : Below wc.heap.size wc W := h
theorem From.all {w wc W : World} {K : Below w.heap.size w wc} (h : From K W) : Below w.heap.size w W := K.trans ((From.it h).mono K.size)
theorem calls_from {P : Program} {f : FuncId} {args : Array Value} {Q : Ending → World → Prop} {W : World} (R : World → Prop) (h : R W) (k : ∀ W', R W' → Calls P f args W' Q) : Calls P f args W Q := k W h
theorem step_from {P : Program} {ops : Array Oper} {o : Oper} {a : Act} {K : Act → World → Prop} {Q : Exit → Act → World → Prop} {W : World} (R : World → Prop) (h : R W)
    (k : ∀ W', R W' → if Region.wanted o (yielded ops a.tmps) = true then Oper.wp P o a W' K Q else K (a.put o.dst undef) W') : if Region.wanted o (yielded ops a.tmps) = true then Oper.wp P o a W K Q else K (a.put o.dst undef) W := k W h
theorem cell_far {W : World} {p : Addr} {v : Value} {g o : Nat} (h : p.block ≠ g) : (W.setCell p v).cell? ⟨g, o, none⟩ = W.cell? ⟨g, o, none⟩ := World.cell?_setCell_other _ _ _ _ (fun e => h (by rw [e]))
section
variable (W : World) (g : Nat) (x0 x1 x2 x3 x4 x5 x6 x7 x8 x9 x10 x11 x12 x13 x14 x15 x16 x17 x18 x19 : Value)
end
/-- At a step of a region that draws: bytes that lie somewhere appended to bytes of the call's own. -/
theorem step_append_bt {w : World} {ops : Array Oper} {o : Oper} {a : Act} {K : Act → World → Prop} {Q : Exit → Act → World → Prop} {E : Prop} (hgd : o.guard = none) (s x : Operand)
    (ho : o.op = .call { callee := .builtin .append, args := #[s, x], argTypes := #[22, 22] }) (base : Nat) (v : Value) (M : List Nat) (hs : a.eval s = v) (hown : OB w base v M)
    (u : Value) (L : List Nat) (hx : a.eval x = u) {B : Nat} (hb : Bt w B u L) (hr : Real u) (hlen : M.length + L.length ≤ 8388608) (hbase : base ≤ w.heap.size)
    (h : ∀ v' w', OB w' base v' (M ++ L) → w.grownBy w' v.ownBlock → K (a.put o.dst v') w') : if Region.wanted o (yielded ops a.tmps) = true then Oper.wp Tryz.prog o a w K Q else E := by
  have hw : Region.wanted o (yielded ops a.tmps) = true := by simp [Region.wanted, hgd]
  rw [if_pos hw]
  obtain ⟨i0, hi, hz0, hz1, hz2⟩ := info_parts info_u8
  rcases hr with rfl | ⟨ad, m, c, rfl⟩
  · have hL : L = [] := List.eq_nil_of_length_eq_zero hb.slice_len.1
    subst hL
    have hrun := run_append_owned_none (P := Tryz.prog) (w := w) base 22 o.type 5 i0 1 Tryz.underlying22 hi v M.length _ hown.own
    unfold Oper.wp
    simp [execOp, ho, resolve, invoke, builtin, hs, hx, hrun, Result.andThen]
    exact h v w (by rw [List.append_nil]; exact hown) ⟨rfl, rfl, rfl, Nat.le_refl _, fun _ _ _ => rfl⟩
  · obtain ⟨hm, hmc⟩ := hb.slice_len
    refine wp_append_own w s x 22 ho base 5 i0 (.int .u8 0) 1 1 Tryz.underlying22 hi hz0 hz1 hz2 rfl (by decide) v M.length _ hs hown.own ad m c (L.map byteV) hx (by rw [List.length_map, hm, Nat.mul_one]) ?_ one_bytes (by unfold maxLen; omega) (by omega) hbase ?_
    · intro j y hy
      have hj : j < L.length := by
        have := (List.getElem?_eq_some_iff.1 hy).1
        simpa using this
      rw [byteV_get hj] at hy
      cases hy
      obtain ⟨b, off, e, hb1, q⟩ := hb.cell hj
      cases e
      have ha : (⟨b, off, none⟩ : Addr).add j = ⟨b, off + j, none⟩ := by unfold Addr.add; split <;> simp_all
      rw [ha]
      exact q
    · intro v' w' h1 h2 _
      exact h v' w' ⟨by rw [List.length_append, List.map_append, hm]; exact h1, hown.small.append hb.small⟩ h2
end Go.Proofs.YtdkmhaghnfhajaaGreat
/- Ze -/
set_option linter.unusedVariables false
namespace Go.Proofs.YtdkmhaghnfhajaaGreat
open Go.RowKit

theorem keeps_setRow (W : World) (g : Nat) (cs : Array Value) : Keeps (· = g) W (W.setRow g cs) := ⟨rfl, rfl, rfl, by simp, fun b hb hn => setRow_other W g b cs hn⟩
theorem row_apart {w : World} {B e k n g T : Nat} {cs : Array Value} {v : Value} {xs : List Value} (h : w.ownsRow B e k v n xs) (hg : w.heap[g]? = some (.cells cs T (0, 0))) (hne : T ≠ e) : ∀ r, v.ownBlock = some r → ¬ r = g := by
  rintro r hr rfl
  rcases h.2 with ⟨rfl, _⟩ | ⟨g1, c1, cur1, rfl, _, hh1, _⟩
  · cases hr
  · obtain rfl : g1 = r := by simpa [Value.ownBlock] using hr
    rw [hg] at hh1
    injection hh1 with hh1
    injection hh1 with _ h2 _
    exact hne h2
theorem OwnSt.keepsT {w w' : World} {B g T : Nat} {cs : Array Value} {v : Value} {s : StD} (h : OwnSt w B v s) (kk : Keeps (· = g) w w') (hg : w.heap[g]? = some (.cells cs T (0, 0))) (hT : T ≠ 67 ∧ T ≠ 46 ∧ T ≠ 4 ∧ T ≠ 2) : OwnSt w' B v s := by
  obtain ⟨v0, v1, v2, v3, hv, h0, h1, h2, h3⟩ := h.it
  exact ⟨v0, v1, v2, v3, hv, ownsRow_keeps h0 kk (row_apart h0 hg hT.1), ownsRow_keeps h1 kk (row_apart h1 hg hT.2.1), ownsRow_keeps h2 kk (row_apart h2 hg hT.2.2.1), ownsRow_keeps h3 kk (row_apart h3 hg hT.2.2.2)⟩
theorem OB.keepsT {w w' : World} {B g T : Nat} {cs : Array Value} {v : Value} {L : List Nat} (h : OB w B v L) (kk : Keeps (· = g) w w') (hg : w.heap[g]? = some (.cells cs T (0, 0))) (hT : T ≠ 5) : OB w' B v L := ⟨ownsRow_keeps h.own kk (row_apart h.own hg hT), h.small⟩
/-- What makes an agent of the call's own answers. -/
def MadeAg (w : World) (d : PlanD) (s : StD) (st : List Nat) (e : Ending) (w' : World) : Prop := ∃ v, e = .returned v ∧ OwnAg w' w.heap.size v d s st ∧ Below w.heap.size w w'

set_option maxRecDepth 100000 in
set_option maxHeartbeats 8000000 in
theorem l15Copy_any (v : Value) (d : PlanD) (s : StD) (st : List Nat) (w : World) (h : IsAg w w.heap.size v d s st) (hst : st.length ≤ 8388608) : Calls Tryz.prog 95 #[v] w (MadeAg w d s st) := by
  obtain ⟨p0, p1, p2, p3, s0, s1, s2, s3, b, rfl, hp, hs, hb, hr⟩ := h.it
  have HP := Lib.hid hp
  have HS := Lib.hid hs
  have HB := Lib.hid hb
  have HR := Lib.hid hr
  have HI : Hid ((Tryz.prog.info? 49).map (·.size) = some 20) := Lib.hid (by kernel_rfl)
  have T0 := Two.start w (agC p0 p1 p2 p3 d.l d.p d.t s.ph s.co s.ck s.bo s.ba s.lb s0 s1 s2 s3 s.gd s.pr b) (agC (.slice none 0 0) (.slice none 0 0) (.slice none 0 0) (.slice none 0 0) 0 0 0 0 false 0 0 0 0 (.slice none 0 0) (.slice none 0 0) (.slice none 0 0) (.slice none 0 0) 0 0 (.slice none 0 0)) 49 49
  have HH := heap_alloc2_new w (.cells (agC p0 p1 p2 p3 d.l d.p d.t s.ph s.co s.ck s.bo s.ba s.lb s0 s1 s2 s3 s.gd s.pr b) 49) (.cells (agC (.slice none 0 0) (.slice none 0 0) (.slice none 0 0) (.slice none 0 0) 0 0 0 0 false 0 0 0 0 (.slice none 0 0) (.slice none 0 0) (.slice none 0 0) (.slice none 0 0) 0 0 (.slice none 0 0)) 49)
  clear h hp hs hb hr
  go_enter Tryz.func95, Tryz.ntmps95
  go_upto_region 1 with fail
  generalize (w.alloc (.cells (agC p0 p1 p2 p3 d.l d.p d.t s.ph s.co s.ck s.bo s.ba s.lb s0 s1 s2 s3 s.gd s.pr b) 49)).alloc (.cells (agC (.slice none 0 0) (.slice none 0 0) (.slice none 0 0) (.slice none 0 0) 0 0 0 0 false 0 0 0 0 (.slice none 0 0) (.slice none 0 0) (.slice none 0 0) (.slice none 0 0) 0 0 (.slice none 0 0)) 49) = w1 at T0 HH ⊢
  refine wp_region_noPanic ?_
  refine wp_region_held_drew (S := (fun W => ∀ o, W.cell? ⟨w.heap.size, o, none⟩ = (agC p0 p1 p2 p3 d.l d.p d.t s.ph s.co s.ck s.bo s.ba s.lb s0 s1 s2 s3 s.gd s.pr b)[o]?)) (by kernel_rfl) ((T0.step (Below.refl _ _).drew).A.C) (fun hS => ?_)
  replace T0 := T0.step (Below.refl _ _).drew
  rw [← heap_drew w1] at HH
  generalize w1.drew = w0 at T0 HH hS ⊢
  have K : Below w0.heap.size w0 w0 := Below.refl _ _
  have S0 := T0.A.C
  have hw0 := T0.A.z
  have hw1 := T0.O.z
  refine wpAnyH_take (i := 0) (v := ?_) rfl (by kernel_rfl) (by kernel_rfl) (by kernel_rfl) (fun _ _ _ h => h) (Or.inl ⟨by rfl, ?_⟩) hS ?_
  rotate_left 1
  · intro w hSw
    (try dsimp only at hSw)
    go_simp
    try with_reducible rfl
  change wpAnyH _ _ _ _ _ _ _ (Act.put _ (some 3) _) _
  dsimp only [Act.put]
  refine wpAnyH_take (i := 1) (v := ?_) rfl (by kernel_rfl) (by kernel_rfl) (by kernel_rfl) (fun _ _ _ h => h) (Or.inl ⟨by rfl, ?_⟩) hS ?_
  rotate_left 1
  · intro w hSw
    (try dsimp only at hSw)
    go_simp
    try with_reducible rfl
  change wpAnyH _ _ _ _ _ _ _ (Act.put _ (some 4) _) _
  dsimp only [Act.put]
  refine wpAnyH_take (i := 3) (v := ?_) rfl (by kernel_rfl) (by kernel_rfl) (by kernel_rfl) (fun _ _ _ h => h) (Or.inl ⟨by rfl, ?_⟩) hS ?_
  rotate_left 1
  · intro w hSw
    (try dsimp only at hSw)
    go_simp
    try with_reducible rfl
  change wpAnyH _ _ _ _ _ _ _ (Act.put _ (some 6) _) _
  dsimp only [Act.put]
  refine wpAnyH_take (i := 4) (v := ?_) rfl (by kernel_rfl) (by kernel_rfl) (by kernel_rfl) (fun _ _ _ h => h) (Or.inl ⟨by rfl, ?_⟩) hS ?_
  rotate_left 1
  · intro w hSw
    (try dsimp only at hSw)
    go_simp
    try with_reducible rfl
  change wpAnyH _ _ _ _ _ _ _ (Act.put _ (some 7) _) _
  dsimp only [Act.put]
  refine wpAnyH_take (i := 7) (v := ?_) rfl (by kernel_rfl) (by kernel_rfl) (by kernel_rfl) (fun _ _ _ h => h) (Or.inl ⟨by rfl, ?_⟩) hS ?_
  rotate_left 1
  · intro w hSw
    (try dsimp only at hSw)
    go_simp
    try with_reducible rfl
  change wpAnyH _ _ _ _ _ _ _ (Act.put _ (some 10) _) _
  dsimp only [Act.put]
  refine wpAnyH_take (i := 8) (v := ?_) rfl (by kernel_rfl) (by kernel_rfl) (by kernel_rfl) (fun _ _ _ h => h) (Or.inl ⟨by rfl, ?_⟩) hS ?_
  rotate_left 1
  · intro w hSw
    (try dsimp only at hSw)
    go_simp
    try with_reducible rfl
  change wpAnyH _ _ _ _ _ _ _ (Act.put _ (some 11) _) _
  dsimp only [Act.put]
  refine wpAnyH_ready (rs := [2, 6]) (by kernel_rfl) (by simp) ?_
  refine AllReadyH.cons rfl (fun K' hK => ?_) ?_
  · skip
    go_simp
    go_at_call 51
    first
    | (with_reducible refine calls_from (fun W' => From K W' ∧ OB W' w.heap.size (.slice (some ⟨(endOf K).heap.size, 0, none⟩) 0 0) []) ⟨From.alloc K _, OB.empty (T0.step K).A.K.size⟩ ?_
       rintro W' ⟨hW, Eb⟩
       have hE := K.size)
    | (with_reducible refine calls_from (From K) (From.same K) ?_
       intro W' hW
       try replace Eb := Eb.below hW.it)
    have TW := T0.step hW.all
    try replace Lp := Lp.below hW.it
    try replace Os := Os.below hW.it
    try replace Ob := Ob.below hW.it
    refine (l15PlanCopy_any _ d W' ((HP.out.below TW.A.K (Nat.le_refl _)).more TW.A.K.size)).mono ?_
    rintro e wn ⟨q0, q1, q2, q3, rfl, Lp_, hb⟩
    have Lp := Lp_.base TW.A.K.size
    obtain ⟨Q0, e0, rfl, -, -⟩ := Lp_.o0.formR
    obtain ⟨Q1, e1, rfl, -, -⟩ := Lp_.o1.formR
    obtain ⟨Q2, e2, rfl, -, -⟩ := Lp_.o2.formR
    obtain ⟨Q3, e3, rfl, -, -⟩ := Lp_.o3.formR
    clear Lp_
    try replace Eb := Eb.below hb
    try replace Lp := Lp.below hb
    try replace Os := Os.below hb
    replace K := hW.all.trans (hb.mono hW.all.size)
    clear hb hW TW
    go_wp2_with fail
    refine hK.out _ _ (fun o => (Below.cell (p := ⟨w.heap.size, o, none⟩) K hw0).trans (S0 o)) (fun hS => ?_)
    clear hK K'
    skip
    refine wpAnyH_ready (rs := [5, 6]) (by kernel_rfl) (by simp) ?_
    refine AllReadyH.cons rfl (fun K' hK => ?_) ?_
    · skip
      go_simp
      go_at_call 58
      first
      | (with_reducible refine calls_from (fun W' => From K W' ∧ OB W' w.heap.size (.slice (some ⟨(endOf K).heap.size, 0, none⟩) 0 0) []) ⟨From.alloc K _, OB.empty (T0.step K).A.K.size⟩ ?_
         rintro W' ⟨hW, Eb⟩
         have hE := K.size)
      | (with_reducible refine calls_from (From K) (From.same K) ?_
         intro W' hW
         try replace Eb := Eb.below hW.it)
      have TW := T0.step hW.all
      try replace Lp := Lp.below hW.it
      try replace Os := Os.below hW.it
      try replace Ob := Ob.below hW.it
      refine (l5Copy_any _ s W' ((HS.out.below TW.A.K (Nat.le_refl _)).more TW.A.K.size)).mono ?_
      rintro e wn ⟨v5, rfl, Os_, hb⟩
      have Os := Os_.base TW.A.K.size
      obtain ⟨y0, y1, y2, y3, rfl, z0, z1, z2, z3⟩ := Os_.it
      have AP := apart_of Lp.o1 z3
      obtain ⟨Y0, f0, rfl, -⟩ := open_rowR z0
      obtain ⟨Y1, f1, rfl, -⟩ := open_rowR z1
      obtain ⟨Y2, f2, rfl, -⟩ := open_rowR z2
      obtain ⟨Y3, f3, rfl, -⟩ := open_rowR z3
      clear Os_ z0 z1 z2 z3
      try replace Eb := Eb.below hb
      try replace Lp := Lp.below hb
      try replace Os := Os.below hb
      replace K := hW.all.trans (hb.mono hW.all.size)
      clear hb hW TW
      go_wp2_with fail
      refine hK.out _ _ (fun o => (Below.cell (p := ⟨w.heap.size, o, none⟩) K hw0).trans (S0 o)) (fun hS => ?_)
      clear hK K'
      skip
      refine wpAnyH_ready (rs := [6]) (by kernel_rfl) (by simp) ?_
      refine AllReadyH.cons rfl (fun K' hK => ?_) ?_
      · skip
        go_simp
        have KA := (From.alloc K (.cells #[] 5)).all
        refine hK.out _ _ (fun o => (Below.cell (p := ⟨w.heap.size, o, none⟩) KA hw0).trans (S0 o)) (fun hS => ?_)
        clear hK K'
        skip
        clear KA
        refine wpAnyH_ready (rs := [9]) (by kernel_rfl) (by simp) ?_
        refine AllReadyH.cons rfl (fun K' hK => ?_) ?_
        · skip
          first
          | (with_reducible refine step_from (fun W' => From K W' ∧ OB W' w.heap.size (.slice (some ⟨(endOf K).heap.size, 0, none⟩) 0 0) []) ⟨From.alloc K _, OB.empty (T0.step K).A.K.size⟩ ?_
             rintro W' ⟨hW, Eb⟩
             have hE := K.size)
          | (with_reducible refine step_from (From K) (From.same K) ?_
             intro W' hW
             try replace Eb := Eb.below hW.it)
          have TW := T0.step hW.all
          try replace Lp := Lp.below hW.it
          try replace Os := Os.below hW.it
          try replace Ob := Ob.below hW.it
          refine step_append_bt rfl _ _ rfl w.heap.size _ [] rfl Eb b st rfl (HB.out.below TW.A.K (Nat.le_refl _)) HR.out (by simpa using hst) TW.A.K.size ?_
          intro vb wn Ob hgr
          replace Lp := Lp.grown Eb hgr
          replace Os := Os.grown Eb hgr
          replace K := hW.all.grown hgr hW.all.size (fun r hr => Nat.le_trans hE (Nat.le_of_eq (Option.some.inj hr)))
          obtain ⟨Ab, cb, -, rfl, -⟩ := Ob.open_
          clear Eb hgr hE hW TW
          refine hK.out _ _ (fun o => (Below.cell (p := ⟨w.heap.size, o, none⟩) K hw0).trans (S0 o)) (fun hS => ?_)
          clear hK K'
          change wpAnyH _ _ _ _ _ _ _ (Act.put _ (some 12) _) _
          dsimp only [Act.put]
          refine wpAnyH_take (i := 10) (v := ?_) rfl (by kernel_rfl) (by kernel_rfl) (by kernel_rfl) (fun _ _ _ h => h) (Or.inl ⟨by rfl, ?_⟩) hS ?_
          rotate_left 1
          · intro w hSw
            (try dsimp only at hSw)
            go_simp
            try with_reducible rfl
          change wpAnyH _ _ _ _ _ _ _ (Act.put _ (some 13) _) _
          dsimp only [Act.put]
          refine wpAnyH_ready (rs := [11]) (by kernel_rfl) (by simp) ?_
          refine AllReadyH.cons rfl (fun K' hK => ?_) AllReadyH.nil
          rw [if_pos (by rfl)]
          have hh := (K.block _ hw1).trans HH
          refine wp_store_row 49 (.tmp 2) (.tmp 13) rfl (w.heap.size + 1) (agC (.slice Q0 d.n0 e0) (.slice Q1 d.n1 e1) (.slice Q2 d.n2 e2) (.slice Q3 d.n3 e3) d.l d.p d.t s.ph s.co s.ck s.bo s.ba s.lb (.slice Y0 s.pods.length f0) (.slice Y1 s.mnts.length f1) (.slice Y2 s.devs.length f2) (.slice Y3 s.lks.length f3) s.gd s.pr (.slice Ab st.length cb)) rfl rfl 49 _ hh HI.out rfl (by simp [Value.oneCell']) ?_
          have KS : Keeps (· = w.heap.size + 1) wn (wn.setRow (w.heap.size + 1) (agC (.slice Q0 d.n0 e0) (.slice Q1 d.n1 e1) (.slice Q2 d.n2 e2) (.slice Q3 d.n3 e3) d.l d.p d.t s.ph s.co s.ck s.bo s.ba s.lb (.slice Y0 s.pods.length f0) (.slice Y1 s.mnts.length f1) (.slice Y2 s.devs.length f2) (.slice Y3 s.lks.length f3) s.gd s.pr (.slice Ab st.length cb))) := keeps_setRow ..
          refine hK.out _ _ (fun o => (KS.cell (p := ⟨w.heap.size, o, none⟩) (Nat.lt_of_lt_of_le hw0 K.size) (Nat.ne_of_lt (Nat.lt_succ_self _))).trans ((Below.cell (p := ⟨w.heap.size, o, none⟩) K hw0).trans (S0 o))) (fun hS => ?_)
          clear hK K'
          refine wpAnyH_done (by kernel_rfl) ?_ _
          refine NoPanic.normal ?_
          go_wp2_with fail
          exact bodyPost_ret (v := .agg (agC (.slice Q0 d.n0 e0) (.slice Q1 d.n1 e1) (.slice Q2 d.n2 e2) (.slice Q3 d.n3 e3) d.l d.p d.t s.ph s.co s.ck s.bo s.ba s.lb (.slice Y0 s.pods.length f0) (.slice Y1 s.mnts.length f1) (.slice Y2 s.devs.length f2) (.slice Y3 s.lks.length f3) s.gd s.pr (.slice Ab st.length cb))) (results_cell_row Tryz.results95 _ _ _ _ _ _ _ rfl (setRow_heap wn _ _ _ _ _ hh) Tryz.underlying49 rfl HI.out) rfl ⟨_, rfl, ⟨_, _, _, _, _, _, _, _, _, rfl, Lp.keeps KS hh (by decide), Os.keepsT KS hh (by decide), Ob.keepsT KS hh (by decide), AP⟩, below_setRow (T0.step K).A.K (Nat.le_succ _) _⟩
        exact AllReadyH.nil
      exact AllReadyH.nil
    refine AllReadyH.cons rfl (fun K' hK => ?_) ?_
    · skip
      go_simp
      have KA := (From.alloc K (.cells #[] 5)).all
      refine hK.out _ _ (fun o => (Below.cell (p := ⟨w.heap.size, o, none⟩) KA hw0).trans (S0 o)) (fun hS => ?_)
      clear hK K'
      skip
      clear KA
      refine wpAnyH_ready (rs := [5]) (by kernel_rfl) (by simp) ?_
      refine AllReadyH.cons rfl (fun K' hK => ?_) ?_
      · skip
        go_simp
        go_at_call 58
        first
        | (with_reducible refine calls_from (fun W' => From K W' ∧ OB W' w.heap.size (.slice (some ⟨(endOf K).heap.size, 0, none⟩) 0 0) []) ⟨From.alloc K _, OB.empty (T0.step K).A.K.size⟩ ?_
           rintro W' ⟨hW, Eb⟩
           have hE := K.size)
        | (with_reducible refine calls_from (From K) (From.same K) ?_
           intro W' hW
           try replace Eb := Eb.below hW.it)
        have TW := T0.step hW.all
        try replace Lp := Lp.below hW.it
        try replace Os := Os.below hW.it
        try replace Ob := Ob.below hW.it
        refine (l5Copy_any _ s W' ((HS.out.below TW.A.K (Nat.le_refl _)).more TW.A.K.size)).mono ?_
        rintro e wn ⟨v5, rfl, Os_, hb⟩
        have Os := Os_.base TW.A.K.size
        obtain ⟨y0, y1, y2, y3, rfl, z0, z1, z2, z3⟩ := Os_.it
        have AP := apart_of Lp.o1 z3
        obtain ⟨Y0, f0, rfl, -⟩ := open_rowR z0
        obtain ⟨Y1, f1, rfl, -⟩ := open_rowR z1
        obtain ⟨Y2, f2, rfl, -⟩ := open_rowR z2
        obtain ⟨Y3, f3, rfl, -⟩ := open_rowR z3
        clear Os_ z0 z1 z2 z3
        try replace Eb := Eb.below hb
        try replace Lp := Lp.below hb
        try replace Os := Os.below hb
        replace K := hW.all.trans (hb.mono hW.all.size)
        clear hb hW TW
        go_wp2_with fail
        refine hK.out _ _ (fun o => (Below.cell (p := ⟨w.heap.size, o, none⟩) K hw0).trans (S0 o)) (fun hS => ?_)
        clear hK K'
        skip
        refine wpAnyH_ready (rs := [9]) (by kernel_rfl) (by simp) ?_
        refine AllReadyH.cons rfl (fun K' hK => ?_) ?_
        · skip
          first
          | (with_reducible refine step_from (fun W' => From K W' ∧ OB W' w.heap.size (.slice (some ⟨(endOf K).heap.size, 0, none⟩) 0 0) []) ⟨From.alloc K _, OB.empty (T0.step K).A.K.size⟩ ?_
             rintro W' ⟨hW, Eb⟩
             have hE := K.size)
          | (with_reducible refine step_from (From K) (From.same K) ?_
             intro W' hW
             try replace Eb := Eb.below hW.it)
          have TW := T0.step hW.all
          try replace Lp := Lp.below hW.it
          try replace Os := Os.below hW.it
          try replace Ob := Ob.below hW.it
          refine step_append_bt rfl _ _ rfl w.heap.size _ [] rfl Eb b st rfl (HB.out.below TW.A.K (Nat.le_refl _)) HR.out (by simpa using hst) TW.A.K.size ?_
          intro vb wn Ob hgr
          replace Lp := Lp.grown Eb hgr
          replace Os := Os.grown Eb hgr
          replace K := hW.all.grown hgr hW.all.size (fun r hr => Nat.le_trans hE (Nat.le_of_eq (Option.some.inj hr)))
          obtain ⟨Ab, cb, -, rfl, -⟩ := Ob.open_
          clear Eb hgr hE hW TW
          refine hK.out _ _ (fun o => (Below.cell (p := ⟨w.heap.size, o, none⟩) K hw0).trans (S0 o)) (fun hS => ?_)
          clear hK K'
          change wpAnyH _ _ _ _ _ _ _ (Act.put _ (some 12) _) _
          dsimp only [Act.put]
          refine wpAnyH_take (i := 10) (v := ?_) rfl (by kernel_rfl) (by kernel_rfl) (by kernel_rfl) (fun _ _ _ h => h) (Or.inl ⟨by rfl, ?_⟩) hS ?_
          rotate_left 1
          · intro w hSw
            (try dsimp only at hSw)
            go_simp
            try with_reducible rfl
          change wpAnyH _ _ _ _ _ _ _ (Act.put _ (some 13) _) _
          dsimp only [Act.put]
          refine wpAnyH_ready (rs := [11]) (by kernel_rfl) (by simp) ?_
          refine AllReadyH.cons rfl (fun K' hK => ?_) AllReadyH.nil
          rw [if_pos (by rfl)]
          have hh := (K.block _ hw1).trans HH
          refine wp_store_row 49 (.tmp 2) (.tmp 13) rfl (w.heap.size + 1) (agC (.slice Q0 d.n0 e0) (.slice Q1 d.n1 e1) (.slice Q2 d.n2 e2) (.slice Q3 d.n3 e3) d.l d.p d.t s.ph s.co s.ck s.bo s.ba s.lb (.slice Y0 s.pods.length f0) (.slice Y1 s.mnts.length f1) (.slice Y2 s.devs.length f2) (.slice Y3 s.lks.length f3) s.gd s.pr (.slice Ab st.length cb)) rfl rfl 49 _ hh HI.out rfl (by simp [Value.oneCell']) ?_
          have KS : Keeps (· = w.heap.size + 1) wn (wn.setRow (w.heap.size + 1) (agC (.slice Q0 d.n0 e0) (.slice Q1 d.n1 e1) (.slice Q2 d.n2 e2) (.slice Q3 d.n3 e3) d.l d.p d.t s.ph s.co s.ck s.bo s.ba s.lb (.slice Y0 s.pods.length f0) (.slice Y1 s.mnts.length f1) (.slice Y2 s.devs.length f2) (.slice Y3 s.lks.length f3) s.gd s.pr (.slice Ab st.length cb))) := keeps_setRow ..
          refine hK.out _ _ (fun o => (KS.cell (p := ⟨w.heap.size, o, none⟩) (Nat.lt_of_lt_of_le hw0 K.size) (Nat.ne_of_lt (Nat.lt_succ_self _))).trans ((Below.cell (p := ⟨w.heap.size, o, none⟩) K hw0).trans (S0 o))) (fun hS => ?_)
          clear hK K'
          refine wpAnyH_done (by kernel_rfl) ?_ _
          refine NoPanic.normal ?_
          go_wp2_with fail
          exact bodyPost_ret (v := .agg (agC (.slice Q0 d.n0 e0) (.slice Q1 d.n1 e1) (.slice Q2 d.n2 e2) (.slice Q3 d.n3 e3) d.l d.p d.t s.ph s.co s.ck s.bo s.ba s.lb (.slice Y0 s.pods.length f0) (.slice Y1 s.mnts.length f1) (.slice Y2 s.devs.length f2) (.slice Y3 s.lks.length f3) s.gd s.pr (.slice Ab st.length cb))) (results_cell_row Tryz.results95 _ _ _ _ _ _ _ rfl (setRow_heap wn _ _ _ _ _ hh) Tryz.underlying49 rfl HI.out) rfl ⟨_, rfl, ⟨_, _, _, _, _, _, _, _, _, rfl, Lp.keeps KS hh (by decide), Os.keepsT KS hh (by decide), Ob.keepsT KS hh (by decide), AP⟩, below_setRow (T0.step K).A.K (Nat.le_succ _) _⟩
        exact AllReadyH.nil
      exact AllReadyH.nil
    exact AllReadyH.nil
  refine AllReadyH.cons rfl (fun K' hK => ?_) ?_
  · skip
    go_simp
    have KA := (From.alloc K (.cells #[] 5)).all
    refine hK.out _ _ (fun o => (Below.cell (p := ⟨w.heap.size, o, none⟩) KA hw0).trans (S0 o)) (fun hS => ?_)
    clear hK K'
    skip
    clear KA
    refine wpAnyH_ready (rs := [2]) (by kernel_rfl) (by simp) ?_
    refine AllReadyH.cons rfl (fun K' hK => ?_) ?_
    · skip
      go_simp
      go_at_call 51
      first
      | (with_reducible refine calls_from (fun W' => From K W' ∧ OB W' w.heap.size (.slice (some ⟨(endOf K).heap.size, 0, none⟩) 0 0) []) ⟨From.alloc K _, OB.empty (T0.step K).A.K.size⟩ ?_
         rintro W' ⟨hW, Eb⟩
         have hE := K.size)
      | (with_reducible refine calls_from (From K) (From.same K) ?_
         intro W' hW
         try replace Eb := Eb.below hW.it)
      have TW := T0.step hW.all
      try replace Lp := Lp.below hW.it
      try replace Os := Os.below hW.it
      try replace Ob := Ob.below hW.it
      refine (l15PlanCopy_any _ d W' ((HP.out.below TW.A.K (Nat.le_refl _)).more TW.A.K.size)).mono ?_
      rintro e wn ⟨q0, q1, q2, q3, rfl, Lp_, hb⟩
      have Lp := Lp_.base TW.A.K.size
      obtain ⟨Q0, e0, rfl, -, -⟩ := Lp_.o0.formR
      obtain ⟨Q1, e1, rfl, -, -⟩ := Lp_.o1.formR
      obtain ⟨Q2, e2, rfl, -, -⟩ := Lp_.o2.formR
      obtain ⟨Q3, e3, rfl, -, -⟩ := Lp_.o3.formR
      clear Lp_
      try replace Eb := Eb.below hb
      try replace Lp := Lp.below hb
      try replace Os := Os.below hb
      replace K := hW.all.trans (hb.mono hW.all.size)
      clear hb hW TW
      go_wp2_with fail
      refine hK.out _ _ (fun o => (Below.cell (p := ⟨w.heap.size, o, none⟩) K hw0).trans (S0 o)) (fun hS => ?_)
      clear hK K'
      skip
      refine wpAnyH_ready (rs := [5]) (by kernel_rfl) (by simp) ?_
      refine AllReadyH.cons rfl (fun K' hK => ?_) ?_
      · skip
        go_simp
        go_at_call 58
        first
        | (with_reducible refine calls_from (fun W' => From K W' ∧ OB W' w.heap.size (.slice (some ⟨(endOf K).heap.size, 0, none⟩) 0 0) []) ⟨From.alloc K _, OB.empty (T0.step K).A.K.size⟩ ?_
           rintro W' ⟨hW, Eb⟩
           have hE := K.size)
        | (with_reducible refine calls_from (From K) (From.same K) ?_
           intro W' hW
           try replace Eb := Eb.below hW.it)
        have TW := T0.step hW.all
        try replace Lp := Lp.below hW.it
        try replace Os := Os.below hW.it
        try replace Ob := Ob.below hW.it
        refine (l5Copy_any _ s W' ((HS.out.below TW.A.K (Nat.le_refl _)).more TW.A.K.size)).mono ?_
        rintro e wn ⟨v5, rfl, Os_, hb⟩
        have Os := Os_.base TW.A.K.size
        obtain ⟨y0, y1, y2, y3, rfl, z0, z1, z2, z3⟩ := Os_.it
        have AP := apart_of Lp.o1 z3
        obtain ⟨Y0, f0, rfl, -⟩ := open_rowR z0
        obtain ⟨Y1, f1, rfl, -⟩ := open_rowR z1
        obtain ⟨Y2, f2, rfl, -⟩ := open_rowR z2
        obtain ⟨Y3, f3, rfl, -⟩ := open_rowR z3
        clear Os_ z0 z1 z2 z3
        try replace Eb := Eb.below hb
        try replace Lp := Lp.below hb
        try replace Os := Os.below hb
        replace K := hW.all.trans (hb.mono hW.all.size)
        clear hb hW TW
        go_wp2_with fail
        refine hK.out _ _ (fun o => (Below.cell (p := ⟨w.heap.size, o, none⟩) K hw0).trans (S0 o)) (fun hS => ?_)
        clear hK K'
        skip
        refine wpAnyH_ready (rs := [9]) (by kernel_rfl) (by simp) ?_
        refine AllReadyH.cons rfl (fun K' hK => ?_) ?_
        · skip
          first
          | (with_reducible refine step_from (fun W' => From K W' ∧ OB W' w.heap.size (.slice (some ⟨(endOf K).heap.size, 0, none⟩) 0 0) []) ⟨From.alloc K _, OB.empty (T0.step K).A.K.size⟩ ?_
             rintro W' ⟨hW, Eb⟩
             have hE := K.size)
          | (with_reducible refine step_from (From K) (From.same K) ?_
             intro W' hW
             try replace Eb := Eb.below hW.it)
          have TW := T0.step hW.all
          try replace Lp := Lp.below hW.it
          try replace Os := Os.below hW.it
          try replace Ob := Ob.below hW.it
          refine step_append_bt rfl _ _ rfl w.heap.size _ [] rfl Eb b st rfl (HB.out.below TW.A.K (Nat.le_refl _)) HR.out (by simpa using hst) TW.A.K.size ?_
          intro vb wn Ob hgr
          replace Lp := Lp.grown Eb hgr
          replace Os := Os.grown Eb hgr
          replace K := hW.all.grown hgr hW.all.size (fun r hr => Nat.le_trans hE (Nat.le_of_eq (Option.some.inj hr)))
          obtain ⟨Ab, cb, -, rfl, -⟩ := Ob.open_
          clear Eb hgr hE hW TW
          refine hK.out _ _ (fun o => (Below.cell (p := ⟨w.heap.size, o, none⟩) K hw0).trans (S0 o)) (fun hS => ?_)
          clear hK K'
          change wpAnyH _ _ _ _ _ _ _ (Act.put _ (some 12) _) _
          dsimp only [Act.put]
          refine wpAnyH_take (i := 10) (v := ?_) rfl (by kernel_rfl) (by kernel_rfl) (by kernel_rfl) (fun _ _ _ h => h) (Or.inl ⟨by rfl, ?_⟩) hS ?_
          rotate_left 1
          · intro w hSw
            (try dsimp only at hSw)
            go_simp
            try with_reducible rfl
          change wpAnyH _ _ _ _ _ _ _ (Act.put _ (some 13) _) _
          dsimp only [Act.put]
          refine wpAnyH_ready (rs := [11]) (by kernel_rfl) (by simp) ?_
          refine AllReadyH.cons rfl (fun K' hK => ?_) AllReadyH.nil
          rw [if_pos (by rfl)]
          have hh := (K.block _ hw1).trans HH
          refine wp_store_row 49 (.tmp 2) (.tmp 13) rfl (w.heap.size + 1) (agC (.slice Q0 d.n0 e0) (.slice Q1 d.n1 e1) (.slice Q2 d.n2 e2) (.slice Q3 d.n3 e3) d.l d.p d.t s.ph s.co s.ck s.bo s.ba s.lb (.slice Y0 s.pods.length f0) (.slice Y1 s.mnts.length f1) (.slice Y2 s.devs.length f2) (.slice Y3 s.lks.length f3) s.gd s.pr (.slice Ab st.length cb)) rfl rfl 49 _ hh HI.out rfl (by simp [Value.oneCell']) ?_
          have KS : Keeps (· = w.heap.size + 1) wn (wn.setRow (w.heap.size + 1) (agC (.slice Q0 d.n0 e0) (.slice Q1 d.n1 e1) (.slice Q2 d.n2 e2) (.slice Q3 d.n3 e3) d.l d.p d.t s.ph s.co s.ck s.bo s.ba s.lb (.slice Y0 s.pods.length f0) (.slice Y1 s.mnts.length f1) (.slice Y2 s.devs.length f2) (.slice Y3 s.lks.length f3) s.gd s.pr (.slice Ab st.length cb))) := keeps_setRow ..
          refine hK.out _ _ (fun o => (KS.cell (p := ⟨w.heap.size, o, none⟩) (Nat.lt_of_lt_of_le hw0 K.size) (Nat.ne_of_lt (Nat.lt_succ_self _))).trans ((Below.cell (p := ⟨w.heap.size, o, none⟩) K hw0).trans (S0 o))) (fun hS => ?_)
          clear hK K'
          refine wpAnyH_done (by kernel_rfl) ?_ _
          refine NoPanic.normal ?_
          go_wp2_with fail
          exact bodyPost_ret (v := .agg (agC (.slice Q0 d.n0 e0) (.slice Q1 d.n1 e1) (.slice Q2 d.n2 e2) (.slice Q3 d.n3 e3) d.l d.p d.t s.ph s.co s.ck s.bo s.ba s.lb (.slice Y0 s.pods.length f0) (.slice Y1 s.mnts.length f1) (.slice Y2 s.devs.length f2) (.slice Y3 s.lks.length f3) s.gd s.pr (.slice Ab st.length cb))) (results_cell_row Tryz.results95 _ _ _ _ _ _ _ rfl (setRow_heap wn _ _ _ _ _ hh) Tryz.underlying49 rfl HI.out) rfl ⟨_, rfl, ⟨_, _, _, _, _, _, _, _, _, rfl, Lp.keeps KS hh (by decide), Os.keepsT KS hh (by decide), Ob.keepsT KS hh (by decide), AP⟩, below_setRow (T0.step K).A.K (Nat.le_succ _) _⟩
        exact AllReadyH.nil
      exact AllReadyH.nil
    exact AllReadyH.nil
  exact AllReadyH.nil
end Go.Proofs.YtdkmhaghnfhajaaGreat
