/-
  The program's chapter 8: leftIn, a map that pods are struck out of; HealthyIn, MayEvict.
-/
import Derived.Test.YtfilbodigooenaaGreatDoorMZ10
import Derived.Deep.DeepCutAuto
import Derived.Test.YtfilbodigooenaaGreatDoorMZxUo
import Derived.Test.YtfilbodigooenaaGreatDoorMZ9
import Derived.Test.YtfilbodigooenaaGreatDoorMZ6
import Derived.Test.YtfilbodigooenaaGreatDoorMZ2
import Derived.Test.YtfilbodigooenaaGreatDoorMZ8
import Derived.BigQuiet
/- Wk -/
set_option linter.unusedVariables false
namespace Go.Proofs.YtfilbodigooenaaGreatDoor
open Go.RowKit

/-- What a pod of the band becomes. -/
def elemG (d : PlanD) (s : StD) (c : Int) (i : Int) : Option RecD :=
  if aliveB (podAt s i.toNat).1 then (if podStep (hookOf d i.toNat) (graceOf d i.toNat) (podAt s i.toNat) c = (podAt s i.toNat).1 then none else some ⟨2, i, podStep (hookOf d i.toNat) (graceOf d i.toNat) (podAt s i.toNat) c⟩) else none
theorem podsL_hits {d : PlanD} (h : planOkB d = true) (b : Int) : podsL d b = ((List.range d.n0).filter (fun i => bandOf d i == b)).map (fun i : Nat => (i : Int)) := by
  unfold podsL
  rw [found_yes h]
  rfl
theorem elem_recs {d : PlanD} {s : StD} (h : planOkB d = true) (b c : Int) : (podsL d b).filterMap (elemG d s c) = recsOf d.n0 (stepG d s b c) (fun i x => ⟨2, i, x⟩) := by
  rw [podsL_hits h, List.filterMap_map, List.filterMap_filter]
  unfold recsOf
  congr 1
  funext i
  simp only [Function.comp, elemG, stepG, Int.toNat_natCast, beq_iff_eq]
  by_cases h1 : bandOf d i = b
  · by_cases h2 : aliveB (podAt s i).1 = true
    · by_cases h3 : podStep (hookOf d i) (graceOf d i) (podAt s i) c = (podAt s i).1 <;> simp [h1, h2, h3]
    · simp [h1, h2]
  · simp [h1]
theorem elem_live {d : PlanD} {s : StD} (h : planOkB d = true) (b : Int) : (podsL d b).any (fun i => aliveB (podAt s i.toNat).1) = liveB d s b := by
  rw [podsL_hits h, List.any_map, List.any_filter]
  unfold liveB
  congr 1
theorem elem_none {d : PlanD} {s : StD} {c : Int} : ∀ {L : List Int}, L.any (fun i => aliveB (podAt s i.toNat).1) = false → L.filterMap (elemG d s c) = []
  | [], _ => rfl
  | i :: L, h => by
    rw [List.any_cons, Bool.or_eq_false_iff] at h
    rw [List.filterMap_cons, elem_none h.2]
    unfold elemG
    rw [h.1]
    rfl
theorem podsL_in {d : PlanD} {b : Int} {k : Nat} (hk : k < (podsL d b).length) : ∃ i : Nat, (podsL d b)[k]? = some (i : Int) ∧ i < d.n0 := by
  obtain ⟨i, hi, e, -⟩ := podsL_at hk
  rw [List.getD_eq_getElem?_getD, List.getElem?_eq_getElem hk] at e
  exact ⟨i, by rw [List.getElem?_eq_getElem hk]; exact congrArg some e, hi⟩
theorem list_at {w : World} {B n c : Nat} {A : Option Addr} {L : List Int} (h : w.ownsRow B 2 1 (.slice A n c) n (L.map (Value.int .i64))) {k : Nat} {x : Int} (hx : L[k]? = some x) :
    ∃ b off, A = some ⟨b, off, none⟩ ∧ b < w.heap.size ∧ w.cell? ⟨b, off + k, none⟩ = some (.int .i64 x) := by
  obtain ⟨A', c', e, -, S⟩ := open_rowR h
  injection e with e1 e2 e3
  subst e1 e3
  have hl := S.len
  have hk : k < L.length := (List.getElem?_eq_some_iff.1 hx).1
  obtain ⟨b, off, rfl, hb, hc⟩ := S.cell (i := k) (by simp at hl; omega)
  have := hc 0 (by decide)
  rw [Nat.add_zero, Nat.mul_one, Nat.add_zero] at this
  exact ⟨b, off, rfl, hb, this.trans (by simp [hx])⟩
theorem two_row {w : World} {g : Nat} {x y : Value} {t : TypeId} (h : w.heap[g]? = some (.cells #[x, y] t)) : ∀ o, w.cell? ⟨g, o, none⟩ = #[x, y][o]? := fun o => cell_of_row _ _ _ _ _ _ h
theorem take_at {L : List Int} {k : Nat} {i : Int} (h : L[k]? = some i) : L.take (k + 1) = L.take k ++ [i] := by
  rw [List.take_add_one, h]
  rfl
theorem shutL_live {d : PlanD} {s : StD} {c : Int} (hp : planOkB d = true) (h1 : ¬ (s.lks ≠ [] ∧ c < s.lb)) (h2 : ¬ s.ba = 6) (h3 : (podsL d s.ba).any (fun i => aliveB (podAt s i.toNat).1) = true) : shutL d s c = (podsL d s.ba).filterMap (elemG d s c) := by
  unfold shutL
  rw [if_neg h1, if_neg h2, if_pos (by rw [← elem_live hp]; exact h3), elem_recs hp]
theorem shutL_dead {d : PlanD} {s : StD} {c : Int} (hp : planOkB d = true) (h1 : ¬ (s.lks ≠ [] ∧ c < s.lb)) (h2 : ¬ s.ba = 6) (h3 : (podsL d s.ba).any (fun i => aliveB (podAt s i.toNat).1) = false) : shutL d s c = (podsL d s.ba).filterMap (elemG d s c) ++ [⟨9, nextB d s.ba, 0⟩] := by
  unfold shutL
  rw [if_neg h1, if_neg h2, if_neg (by rw [← elem_live hp, h3]; decide), elem_none h3]
  rfl

set_option maxRecDepth 4000 in
set_option maxHeartbeats 16000000 in
theorem l11Shutting_any (pv sv : Value) (d : PlanD) (s : StD) (c : Int) (w : World) (hp : IsPlan w w.heap.size pv d) (hs : IsSt w w.heap.size sv s) (hok : StOk d s) (hc : 0 ≤ c ∧ c ≤ 1000001) :
    Calls Tryz.prog 112 #[pv, sv, .int .i64 c] w fun e w' => ∃ v, e = .returned v ∧ OR w' w.heap.size v (shutL d s c) ∧ Below w.heap.size w w' := by
  have HP := Lib.hid hp
  have HS := Lib.hid hs
  obtain ⟨⟨P0, P1, P2, P3, k0, k1, k2, k3, rfl, s0, s1, s2, s3⟩, b0, b1, b2, b3⟩ := hp
  obtain ⟨⟨A0, A1, A2, A3, c0, c1, c2, c3, rfl, t0, t1, t2, t3⟩, f0, f1, f2, f3⟩ := hs
  have S0 := Lib.hid s0
  have S1 := Lib.hid s1
  have S2 := Lib.hid s2
  have S3 := Lib.hid s3
  have R0 := Lib.hid t0
  have R1 := Lib.hid t1
  have R2 := Lib.hid t2
  have R3 := Lib.hid t3
  unfold maxLen at b0 b1 b2 b3 f0 f1 f2 f3
  clear s0 s1 s2 s3 t0 t1 t2 t3
  have T0 := Two.start w (planC P0 P1 P2 P3 d.n0 k0 d.n1 k1 d.n2 k2 d.n3 k3 d.l d.p d.t) (stC A0 A1 A2 A3 s.pods.length c0 s.mnts.length c1 s.devs.length c2 s.lks.length c3 s.ph s.co s.ck s.bo s.ba s.lb s.gd s.pr) 44 49
  have OK := Lib.hid hok
  have HNP := Lib.hid hok.np
  have HSZ := Lib.hid (size_ok hok.plan)
  have HCK := Lib.hid hc
  clear hok hc
  obtain ⟨ans, hans⟩ : ∃ ans, shutL d s c = ans := ⟨_, rfl⟩
  rw [hans]
  have HANS := Lib.hid hans
  clear hans
  obtain ⟨T1, O1⟩ := recs_start w (planC P0 P1 P2 P3 d.n0 k0 d.n1 k1 d.n2 k2 d.n3 k3 d.l d.p d.t) (stC A0 A1 A2 A3 s.pods.length c0 s.mnts.length c1 s.devs.length c2 s.lks.length c3 s.ph s.co s.ck s.bo s.ba s.lb s.gd s.pr) 44 49
  have hC := T1.A.C
  have hD := T1.O.C
  clear T0
  have HO := Lib.hid O1
  have HT := Lib.hid T1
  have HE : Hid (s.lks ≠ [] ↔ 0 < s.lks.length) := Lib.hid List.length_pos_iff.symm
  by_cases hwait : 0 < s.lks.length ∧ c < s.lb
  · obtain ⟨hl1, hl2⟩ := hwait
    have HW : Hid (s.lks ≠ [] ∧ c < s.lb) := Lib.hid ⟨HE.out.2 hl1, hl2⟩
    go_enter Tryz.func112, Tryz.ntmps112
    go_wp2
    all_goals (go_ret; exact ⟨_, rfl, by rw [← HANS.out, shutL, if_pos HW.out]; exact HO.out.base (by omega), HT.out.A.K⟩)
  · have HW : Hid (¬ (s.lks ≠ [] ∧ c < s.lb)) := Lib.hid fun h => hwait ⟨HE.out.1 h.1, h.2⟩
    cases h6 : (s.ba == 6)
    case true =>
      have H6 : Hid (s.ba = 6) := Lib.hid (by simpa using h6)
      by_cases hl : 0 < s.lks.length
      all_goals
        try (have hlb : ¬ c < s.lb := fun h => hwait ⟨hl, h⟩)
        clear hwait
        go_enter Tryz.func112, Tryz.ntmps112
        go_wp2_with (at_builtin; refine append_rec 1 4 0 _ _ rfl rfl rfl HO.out (by simp) rfl (by decide) HT.out.O.z ?_; rintro v' w' O' hb' -)
        all_goals (go_ret; exact ⟨_, rfl, by rw [← HANS.out, shutL, if_neg HW.out, if_pos H6.out]; exact O'.base (by omega), (HT.out.low hb' (Nat.le_refl _)).A.K⟩)
    case false =>
      have H6 : Hid (¬ s.ba = 6) := Lib.hid (by simpa using h6)
      have HLV := Lib.hid (fun h3 => (shutL_live OK.out.plan HW.out H6.out h3).symm.trans HANS.out)
      have HDD := Lib.hid (fun h3 => (shutL_dead OK.out.plan HW.out H6.out h3).symm.trans HANS.out)
      by_cases hl : 0 < s.lks.length
      all_goals
        try (have hlb : ¬ c < s.lb := fun h => hwait ⟨hl, h⟩)
        clear hwait
        go_enter Tryz.func112, Tryz.ntmps112
        go_wp2_with fail
        refine (specPods_any _ d _ _ ((HP.out.below HT.out.A.K (Nat.le_refl _)).more HT.out.A.K.size) (by have := HSZ.out; omega)).mono ?_
        rintro e w2 ⟨vL, rfl, OL, hb⟩
        have T2 := HT.out.step hb
        have O2 := HO.out.below hb
        have HPL := Lib.hid (fun (k : Nat) (hk : k < (podsL d s.ba).length) => podsL_in hk)
        have HPN : Hid ((podsL d s.ba).length ≤ 12) := Lib.hid (by have := podsL_le d s.ba; have := HSZ.out; omega)
        have hlen : (podsL d s.ba).length ≤ 2 ^ 63 - 1 := by have := HPN.out; omega
        have hba := OK.out.ba
        clear hb hC hD O1 T1 h6
        obtain ⟨AL, cL, rfl, -, SL⟩ := open_rowR OL
        clear SL
        generalize podsL d s.ba = L at OL HLV HDD HPL HPN hlen ⊢
        have OL := ownsRow_base OL HT.out.O.z
        go_wp2_with fail
        go_loopw [7, 8, 10] (fun v lv j wr => ∃ k : Nat, k ≤ L.length ∧ j = .int .i64 k ∧ lv = .bool ((L.take k).any (fun i => aliveB (podAt s i.toNat).1)) ∧ Hid (OR wr (w.heap.size + 2) v ((L.take k).filterMap (elemG d s c))) ∧
          Hid (wr.ownsRow (w.heap.size + 2) 2 1 (.slice AL L.length cL) L.length (L.map (Value.int .i64))) ∧ Two w wr (planC P0 P1 P2 P3 d.n0 k0 d.n1 k1 d.n2 k2 d.n3 k3 d.l d.p d.t) (stC A0 A1 A2 A3 s.pods.length c0 s.mnts.length c1 s.devs.length c2 s.lks.length c3 s.ph s.co s.ck s.bo s.ba s.lb s.gd s.pr)) (fun _ _ j _ => L.length - (intOf j).toNat)
        case atStart => exact ⟨0, Nat.zero_le _, rfl, by simp, Lib.hid (by simpa using O2), Lib.hid OL, T2⟩
        case round =>
          clear O2 OL T2 HT HO
          obtain ⟨k, hk, rfl, rfl, HO, HOL, T⟩ := hrel
          have hC := T.A.C
          have hD := T.O.C
          by_cases hlt : k < L.length
          · obtain ⟨i, hLi, hi⟩ := HPL.out k hlt
            have hlp : i < s.pods.length := by rw [HNP.out]; exact hi
            have HLI := Lib.hid hLi
            obtain ⟨bl, ol, rfl, hbl, q0⟩ := list_at HOL.out hLi
            clear hLi
            obtain ⟨b', off', rfl, hb', hc⟩ := (R0.out.below T.A.K (Nat.le_refl _)).cell hlp
            have p0 := (hc 0 (by decide)).trans (podCs_at s.pods (i := i) hlp).1
            have p1 := (hc 1 (by decide)).trans (podCs_at s.pods (i := i) hlp).2
            rw [Nat.add_zero] at p0
            clear hc
            have hpo := (podAt_ok OK.out hi).2
            have HEL : Hid (elemG d s c (i : Int) = if aliveB (podA s.pods i).1 then (if podStep (d.x0 (i * 4 + 3)) (d.x0 (i * 4 + 2)) (podA s.pods i) c = (podA s.pods i).1 then none else some ⟨2, i, podStep (d.x0 (i * 4 + 3)) (d.x0 (i * 4 + 2)) (podA s.pods i) c⟩) else none) := Lib.hid (by unfold elemG; rw [Int.toNat_natCast]; rfl)
            have HA1 : Hid ((L.take (k + 1)).any (fun i => aliveB (podAt s i.toNat).1) = ((L.take k).any (fun i => aliveB (podAt s i.toNat).1) || aliveB (podA s.pods i).1)) := Lib.hid (by
              rw [take_at HLI.out, List.any_append]; simp [podAt, podA])
            have HF1 : Hid ((L.take (k + 1)).filterMap (elemG d s c) = (L.take k).filterMap (elemG d s c) ++ (match elemG d s c (i : Int) with | some r => [r] | none => [])) := Lib.hid (by
              rw [take_at HLI.out, List.filterMap_append]
              cases he : elemG d s c (i : Int) <;> simp [he])
            have HLE : Hid (((L.take k).filterMap (elemG d s c)).length ≤ 12) := Lib.hid (by
              have := List.length_filterMap_le (elemG d s c) (L.take k)
              have h2 : (L.take k).length ≤ L.length := by rw [List.length_take]; omega
              have := HPN.out
              omega)
            generalize elemG d s c (i : Int) = el at HEL HF1
            rw [show podAt s i = podA s.pods i from rfl] at hpo
            generalize podA s.pods i = q at p0 p1 HEL HA1 hpo
            obtain ⟨x, y⟩ := q
            dsimp only at p0 p1 HEL HA1 hpo
            have hz := T.A.z
            have hz' := T.O.z
            have hbw : b' < wr.heap.size := Nat.lt_of_lt_of_le hb' T.A.K.size
            go_wp2_with fail
            go_cut [11] from 43 to 50 (fun s11 wx => ∃ g, s11 = .pointer (some ⟨g, 0, none⟩) ∧ wx.heap[g]? = some (.cells #[.int .i64 x, .int .i64 y] 123) ∧ Below wr.heap.size wr wx)
            case first =>
              go_region
              all_goals (go_wp2_with fail; go_meet)
              all_goals
                apply Exists.intro
                refine ⟨rfl, ?h3, ?hb⟩
                case h3 => repeat (first | exact alloc_here (by simp) | refine (alloc_there (by simp <;> omega)).trans ?_)
                case hb => repeat (first | exact Below.refl _ _ | refine Below.drew ?_ | refine Below.alloc ?_ (by simp <;> omega) _)
            case rest =>
              obtain ⟨g, rfl, hg, Kx⟩ := hcut
              have T2 := T.step Kx
              have HO2 := Lib.hid (HO.out.below Kx)
              have HOL2 := Lib.hid (ownsRow_below HOL.out Kx)
              have XB := two_row hg
              have hgz : g < wc.heap.size := (Array.getElem?_eq_some_iff.1 hg).1
              have r0 := (Kx.cell (p := ⟨bl, ol + k, none⟩) hbl).trans q0
              have hblc := Nat.lt_of_lt_of_le hbl Kx.size
              clear T HO HOL hC hD hz hz' q0 p0 p1 hbl hbw hb'
              have hC := T2.A.C
              have hD := T2.O.C
              go_wp2_with fail
              refine (alive_any _ _).mono ?_
              rintro e w5 ⟨rfl, rfl⟩
              cases ha : aliveB x
              · have HAL := Lib.hid ha
                clear ha
                go_wp2
                refine ⟨⟨k + 1, by omega, by go_num, by rw [HA1.out, HAL.out, Bool.or_false], Lib.hid (by rw [HF1.out, HEL.out, HAL.out]; simpa using HO2.out), HOL2, T2⟩, by simp [intOf]; omega⟩
              · have HAL := Lib.hid ha
                clear ha
                obtain ⟨bp, op, rfl, hbp, g0, g1, g2, g3⟩ := (S0.out.own T2.A).cell4 hi
                have hck := HCK.out
                go_wp2_with fail
                have Q0 : (∀ o, wc.cell? ⟨w.heap.size, o, none⟩ = (planC (some ⟨bp, op, none⟩) P1 P2 P3 d.n0 k0 d.n1 k1 d.n2 k2 d.n3 k3 d.l d.p d.t)[o]?) ∧ (∀ o, wc.cell? ⟨g, o, none⟩ = #[Value.int .i64 x, .int .i64 y][o]?) ∧ wc.cell? ⟨bl, ol + k, none⟩ = some (.int .i64 i) ∧ wc.cell? ⟨bp, op + i * 4, none⟩ = some (.int .i64 (d.x0 (i * 4))) ∧ wc.cell? ⟨bp, op + i * 4 + 1, none⟩ = some (.int .i64 (d.x0 (i * 4 + 1))) ∧ wc.cell? ⟨bp, op + i * 4 + 2, none⟩ = some (.int .i64 (d.x0 (i * 4 + 2))) ∧ wc.cell? ⟨bp, op + i * 4 + 3, none⟩ = some (.int .i64 (d.x0 (i * 4 + 3))) ∧ Below wc.heap.size wc wc := ⟨T2.A.C, XB, r0, g0, g1, g2, g3, Below.refl _ _⟩
                clear hC hD XB r0 g0 g1 g2 g3
                go_region_held3 (fun w' => (∀ o, w'.cell? ⟨w.heap.size, o, none⟩ = (planC (some ⟨bp, op, none⟩) P1 P2 P3 d.n0 k0 d.n1 k1 d.n2 k2 d.n3 k3 d.l d.p d.t)[o]?) ∧ (∀ o, w'.cell? ⟨g, o, none⟩ = #[Value.int .i64 x, .int .i64 y][o]?) ∧ w'.cell? ⟨bl, ol + k, none⟩ = some (.int .i64 i) ∧ w'.cell? ⟨bp, op + i * 4, none⟩ = some (.int .i64 (d.x0 (i * 4))) ∧ w'.cell? ⟨bp, op + i * 4 + 1, none⟩ = some (.int .i64 (d.x0 (i * 4 + 1))) ∧ w'.cell? ⟨bp, op + i * 4 + 2, none⟩ = some (.int .i64 (d.x0 (i * 4 + 2))) ∧ w'.cell? ⟨bp, op + i * 4 + 3, none⟩ = some (.int .i64 (d.x0 (i * 4 + 3))) ∧ Below wc.heap.size wc w')
                  (first | exact Q2 | exact Q0 | exact ⟨Q0.1, Q0.2.1, Q0.2.2.1, Q0.2.2.2.1, Q0.2.2.2.2.1, Q0.2.2.2.2.2.1, Q0.2.2.2.2.2.2.1, Q0.2.2.2.2.2.2.2.drew⟩)
                  (first
                    | (go_at_call 161
                       have K0 : Below wc.heap.size wc wc.drew := (Below.refl _ _).drew
                       refine (podStep_any _ _ _ _ _ _ _ _ hpo hck).mono ?_
                       rintro e w6 ⟨rfl, hb6⟩
                       have K1 : Below wc.heap.size wc w6 := K0.trans hb6
                       have Q2 := And.intro (T2.step K1).A.C (And.intro (fun o => (K1.cell (p := ⟨g, o, none⟩) hgz).trans (Q0.2.1 o)) (And.intro ((K1.cell (p := ⟨bl, ol + k, none⟩) hblc).trans Q0.2.2.1) (And.intro ((K1.cell (p := ⟨bp, op + i * 4, none⟩) hbp).trans Q0.2.2.2.1) (And.intro ((K1.cell (p := ⟨bp, op + i * 4 + 1, none⟩) hbp).trans Q0.2.2.2.2.1) (And.intro ((K1.cell (p := ⟨bp, op + i * 4 + 2, none⟩) hbp).trans Q0.2.2.2.2.2.1) (And.intro ((K1.cell (p := ⟨bp, op + i * 4 + 3, none⟩) hbp).trans Q0.2.2.2.2.2.2.1) K1))))))))
                have T3 := T2.step K1
                have HO3 := Lib.hid (HO2.out.below K1)
                have HOL3 := Lib.hid (ownsRow_below HOL2.out K1)
                have XB := Q2.2.1
                have r0 := Q2.2.2.1
                clear Q0 Q2 K0 K1 hb6 T2 HO2 HOL2
                rename_i hHeld
                clear hHeld
                have hC := T3.A.C
                have hD := T3.O.C
                generalize podStep (d.x0 (i * 4 + 3)) (d.x0 (i * 4 + 2)) (x, y) c = st at HEL ⊢
                cases hst : (st != x)
                · have HST : Hid (st = x) := Lib.hid (by simpa using hst)
                  go_wp2
                  refine ⟨⟨k + 1, by omega, by go_num, by rw [HA1.out, HAL.out, Bool.or_true], Lib.hid (by rw [HF1.out, HEL.out, HAL.out, if_pos rfl, if_pos HST.out]; simpa using HO3.out), HOL3, T3⟩, by simp [intOf]; omega⟩
                · have HST : Hid (¬ st = x) := Lib.hid (by simpa using hst)
                  go_wp2_with (at_builtin; refine append_rec 2 i st _ _ rfl rfl rfl HO3.out rfl rfl (by have := HLE.out; omega) T3.O.z ?_; rintro v' w' O' hb' hk')
                  refine ⟨⟨k + 1, by omega, by go_num, by rw [HA1.out, HAL.out, Bool.or_true], Lib.hid (by rw [HF1.out, HEL.out, HAL.out, if_pos rfl, if_neg HST.out]; exact O'), Lib.hid (ownsRow_keeps HOL3.out hk' fun r hr e => absurd (row_type HOL3.out HO3.out hr e) (by decide)), T3.low hb' (Nat.le_refl _)⟩, by simp [intOf]; omega⟩
          · obtain rfl : k = L.length := by omega
            rw [List.take_length] at HO ⊢
            cases hv : L.any (fun i => aliveB (podAt s i.toNat).1)
            · have HV := Lib.hid (HDD.out hv)
              clear hv
              go_wp2_with fail
              refine (specNext_any _ d _ _ ((HP.out.below T.A.K (Nat.le_refl _)).more T.A.K.size) (by have := HSZ.out; omega)).mono ?_
              rintro e w5 ⟨rfl, hb⟩
              have T5 := T.step hb
              have HO5 := Lib.hid (HO.out.below hb)
              have HLE : Hid ((L.filterMap (elemG d s c)).length ≤ 12) := Lib.hid (by
                have := List.length_filterMap_le (elemG d s c) L
                have := HPN.out
                omega)
              clear hb hC hD T
              have HB : Hid (nextB d s.ba = if nextL d s.ba < 0 then 6 else nextL d s.ba) := Lib.hid rfl
              generalize nextL d s.ba = nb at HB ⊢
              by_cases hnb : nb < 0
              · have HN := Lib.hid hnb
                go_wp2_with (at_builtin; refine append_rec 9 6 0 _ _ rfl rfl rfl HO5.out rfl rfl (by have := HLE.out; omega) T5.O.z ?_; rintro v' w' O' hb' -)
                all_goals (go_ret; exact ⟨_, rfl, by rw [← HV.out, HB.out, if_pos (by have := HN.out; omega)]; exact O'.base (by omega), (T5.low hb' (Nat.le_refl _)).A.K⟩)
              · have HN := Lib.hid hnb
                go_wp2_with (at_builtin; refine append_rec 9 nb 0 _ _ rfl rfl rfl HO5.out rfl rfl (by have := HLE.out; omega) T5.O.z ?_; rintro v' w' O' hb' -)
                all_goals (go_ret; exact ⟨_, rfl, by rw [← HV.out, HB.out, if_neg (by have := HN.out; omega)]; exact O'.base (by omega), (T5.low hb' (Nat.le_refl _)).A.K⟩)
            · have HV := Lib.hid (HLV.out hv)
              clear hv
              go_wp2
              all_goals (go_ret; exact ⟨_, rfl, by rw [← HV.out]; exact HO.out.base (by omega), T.A.K⟩)
end Go.Proofs.YtfilbodigooenaaGreatDoor
/- Vc -/
set_option linter.unusedVariables false
namespace Go.Proofs.YtfilbodigooenaaGreatDoor
open Go.RowKit

theorem aliveB_no {x : Int} (h0 : ¬ x = 0) (h1 : ¬ x = 1) (h2 : ¬ x = 2) (h3 : ¬ x = 3) : aliveB x = false := by
  rw [Bool.eq_false_iff]
  intro h
  rw [aliveB, inB_true] at h
  omega
set_option maxHeartbeats 1000000 in
theorem implAlive_any (x : Int) (w : World) : Calls Tryz.prog 152 #[.int .i64 x] w fun e w' => e = .returned (.bool (aliveB x)) ∧ w = w' := by
  by_cases h0 : x = 0
  · subst h0
    go_enter Tryz.func152, Tryz.ntmps152
    go_wp2
    all_goals (go_ret; exact ⟨ret_bool (by decide), rfl⟩)
  · by_cases h1 : x = 1
    · subst h1
      go_enter Tryz.func152, Tryz.ntmps152
      go_wp2
      all_goals (go_ret; exact ⟨ret_bool (by decide), rfl⟩)
    · by_cases h2 : x = 2
      · subst h2
        go_enter Tryz.func152, Tryz.ntmps152
        go_wp2
        all_goals (go_ret; exact ⟨ret_bool (by decide), rfl⟩)
      · by_cases h3 : x = 3
        · subst h3
          go_enter Tryz.func152, Tryz.ntmps152
          go_wp2
          all_goals (go_ret; exact ⟨ret_bool (by decide), rfl⟩)
        · go_enter Tryz.func152, Tryz.ntmps152
          go_wp2
          all_goals (go_ret; exact ⟨ret_bool (by rw [aliveB_no h0 h1 h2 h3]), rfl⟩)

end Go.Proofs.YtfilbodigooenaaGreatDoor
/- VlA -/
set_option linter.unusedVariables false
namespace Go.Proofs.YtfilbodigooenaaGreatDoor
open Go.RowKit

def liveP (s : StD) (i : Nat) : Bool := aliveB (podA s.pods i).1
theorem liveL_le (s : StD) : (liveL s).length ≤ s.pods.length := picks_le _ _
set_option maxRecDepth 100000 in
set_option maxHeartbeats 2000000 in
theorem implLiveIn_any (v : Value) (s : StD) (w : World) (h : IsSt w w.heap.size v s) (hn : s.pods.length ≤ 1048576) :
    Calls Tryz.prog 111 #[v] w (Listed w (liveL s)) := by
  obtain ⟨⟨E0, E1, E2, E3, k0, k1, k2, k3, rfl, s0, -, -, -⟩, -, -, -, -⟩ := h
  have S := Lib.hid s0
  have HN := Lib.hid hn
  have hn' : s.pods.length ≤ 2 ^ 63 - 1 := by omega
  clear s0 hn
  obtain ⟨i0, hi, hz0, hz1, hz2⟩ := info_parts info_i64
  have HI := Lib.hid hi
  have HZ0 := Lib.hid hz0
  have HZ1 := Lib.hid hz1
  have HZ2 := Lib.hid hz2
  clear hi hz0 hz1 hz2
  go_enter Tryz.func111, Tryz.ntmps111
  go_wp2
  have X1 := (Own.box w (stC E0 E1 E2 E3 s.pods.length k0 s.mnts.length k1 s.devs.length k2 s.lks.length k3 s.ph s.co s.ck s.bo s.ba s.lb s.gd s.pr) 49).alloc (.cells #[] 2)
  have O1 : ((w.alloc (.cells (stC E0 E1 E2 E3 s.pods.length k0 s.mnts.length k1 s.devs.length k2 s.lks.length k3 s.ph s.co s.ck s.bo s.ba s.lb s.gd s.pr) 49)).alloc (.cells #[] 2)).ownsRow (w.heap.size + 1) 2 1 (.slice (some ⟨w.heap.size + 1, 0, none⟩) 0 0) 0 [] := by
    have := World.ownsRow_made (base := w.heap.size + 1) (e := 2) (size := 1) (w.alloc (.cells (stC E0 E1 E2 E3 s.pods.length k0 s.mnts.length k1 s.devs.length k2 s.lks.length k3 s.ph s.co s.ck s.bo s.ba s.lb s.gd s.pr) 49)) #[] 0 (by simp) (Nat.zero_le _) rfl
    simpa using this
  go_loopw [3, 10] (fun v i wr => ∃ k : Nat, k ≤ s.pods.length ∧ i = .int .i64 k ∧ wr.ownsRow (w.heap.size + 1) 2 1 v (picks k (liveP s)).length ((picks k (liveP s)).map (Value.int .i64)) ∧
    Own w wr w.heap.size (stC E0 E1 E2 E3 s.pods.length k0 s.mnts.length k1 s.devs.length k2 s.lks.length k3 s.ph s.co s.ck s.bo s.ba s.lb s.gd s.pr)) (fun _ i _ => s.pods.length - (intOf i).toNat)
  case atStart => exact ⟨0, Nat.zero_le _, rfl, O1, X1⟩
  case round =>
    clear O1 X1
    obtain ⟨k, hk, rfl, O, X⟩ := hrel
    have HO := Lib.hid O
    clear O
    have hC := X.C
    have hz := X.z
    by_cases hlt : k < s.pods.length
    · have hle := picks_le k (liveP s)
      have h63 : (picks k (liveP s)).length + 1 ≤ maxLen := by have := HN.out; unfold maxLen; omega
      have hby : ((picks k (liveP s)).length + 1) * 8 ≤ 140737488355328 := by have := HN.out; omega
      have H63 := Lib.hid h63
      have HBY := Lib.hid hby
      clear h63 hby hle
      obtain ⟨b, off, rfl, hb, hc⟩ := (S.out.below X.K (Nat.le_refl _)).cell hlt
      have hp := podCs_at s.pods (i := k) hlt
      have q0 := (hc 0 (by decide)).trans hp.1
      have q1 := (hc 1 (by decide)).trans hp.2
      rw [Nat.add_zero] at q0
      clear hc hp
      cases hv : aliveB (podA s.pods k).1
      · have HV := Lib.hid (picks_no (n := k) (p := liveP s) hv)
        generalize podA s.pods k = r at q0 q1 hv
        obtain ⟨x, y⟩ := r
        dsimp only at q0 q1 hv
        go_wp2_with (go_at_call 152; refine (implAlive_any _ _).mono ?_; rintro e w' ⟨rfl, rfl⟩)
        refine ⟨⟨k + 1, by omega, by go_num, by rw [HV.out]; exact HO.out.alloc (.cells #[.int .i64 x, .int .i64 y] 123), X.alloc (.cells #[.int .i64 x, .int .i64 y] 123)⟩, by simp [intOf]; omega⟩
      · have HV := Lib.hid (picks_yes (n := k) (p := liveP s) hv)
        generalize podA s.pods k = r at q0 q1 hv
        obtain ⟨x, y⟩ := r
        dsimp only at q0 q1 hv
        go_wp2_with (first
          | (go_at_call 152; refine (implAlive_any _ _).mono ?_; rintro e w' ⟨rfl, rfl⟩)
          | (at_builtin; refine wpList_append_own _ rfl _ _ 23 rfl (w.heap.size + 1) 2 i0 (.int .i64 0) 1 8 Tryz.underlying23 HI.out HZ0.out HZ1.out HZ2.out rfl (by decide) _ _ _ rfl ((HO.out.alloc (.cells #[.int .i64 x, .int .i64 y] 123)).alloc _) ⟨wr.heap.size + 1, 0, none⟩ 1 1 [.int .i64 k] rfl rfl (by simpa [heap_size_alloc_] using cell_one_new (wr.alloc (.cells #[.int .i64 x, .int .i64 y] 123)) (.int .i64 k) 2) (fun x hx => by simp at hx; subst hx; rfl) H63.out HBY.out (by simp <;> omega) ?_; intro v' w4 hown' hgrow hnil))
        have X3 := (X.alloc (.cells #[.int .i64 x, .int .i64 y] 123)).alloc (.cells #[.int .i64 k] 2)
        refine ⟨⟨k + 1, by omega, by go_num, ?_, ?_⟩, by simp [intOf]; omega⟩
        · rw [HV.out]
          simpa using hown'
        · exact X3.grown hgrow fun g hg => by have := (HO.out.lt g hg).1; omega
    · obtain rfl : k = s.pods.length := by omega
      go_wp2
      go_ret
      exact ⟨_, rfl, ownsRow_base HO.out (Nat.le_succ _), X.K⟩

end Go.Proofs.YtfilbodigooenaaGreatDoor
/- Ha -/
set_option linter.unusedVariables false
namespace Go.Proofs.YtfilbodigooenaaGreatDoor
open Go.RowKit

def mayFreeB (d : PlanD) (s : StD) (a : Int) : Bool := inB a 0 (d.n2 - 1) && freeB d s a.toNat
def mayGiveB (d : PlanD) (s : StD) (a : Int) : Bool := inB a 0 (d.n3 - 1) && giveB d s a.toNat

set_option maxRecDepth 100000 in
set_option maxHeartbeats 4000000 in
theorem implMayGive_any (pv sv : Value) (d : PlanD) (s : StD) (a : Int) (w : World) (hp : IsPlan w w.heap.size pv d) (hs : IsSt w w.heap.size sv s) :
    Calls Tryz.prog 159 #[pv, sv, .int .i64 a] w fun e w' => e = .returned (.bool (stOkB d s && mayGiveB d s a)) ∧ Below w.heap.size w w' := by
  have HP := Lib.hid hp
  have HS := Lib.hid hs
  obtain ⟨⟨P0, P1, P2, P3, k0, k1, k2, k3, rfl, s0, s1, s2, s3⟩, b0, b1, b2, b3⟩ := hp
  obtain ⟨⟨A0, A1, A2, A3, c0, c1, c2, c3, rfl, t0, t1, t2, t3⟩, f0, f1, f2, f3⟩ := hs
  have S0 := Lib.hid s0
  have S1 := Lib.hid s1
  have S2 := Lib.hid s2
  have S3 := Lib.hid s3
  have R0 := Lib.hid t0
  have R1 := Lib.hid t1
  have R2 := Lib.hid t2
  have R3 := Lib.hid t3
  unfold maxLen at b0 b1 b2 b3 f0 f1 f2 f3
  clear s0 s1 s2 s3 t0 t1 t2 t3
  have T0 := Two.start w (planC P0 P1 P2 P3 d.n0 k0 d.n1 k1 d.n2 k2 d.n3 k3 d.l d.p d.t) (stC A0 A1 A2 A3 s.pods.length c0 s.mnts.length c1 s.devs.length c2 s.lks.length c3 s.ph s.co s.ck s.bo s.ba s.lb s.gd s.pr) 44 49
  obtain ⟨ans, hans⟩ : ∃ ans, (stOkB d s && mayGiveB d s a) = ans := ⟨_, rfl⟩
  rw [hans]
  have HANS := Lib.hid hans
  clear hans
  go_enter Tryz.func159, Tryz.ntmps159
  go_wp2_with fail
  refine (implStateOk_any _ _ d s _ ((HP.out.below T0.A.K (Nat.le_refl _)).more T0.A.K.size) ((HS.out.below T0.A.K (Nat.le_refl _)).more T0.A.K.size)).mono ?_
  rintro e w1 ⟨rfl, hb⟩
  have T1 := T0.step hb
  have hC := T1.A.C
  have hD := T1.O.C
  clear hb T0
  cases hok : stOkB d s
  · have OKB := Lib.hid hok
    clear hok
    go_wp2
    all_goals (go_ret; exact ⟨ret_bool (by rw [← HANS.out, OKB.out]; rfl), T1.A.K⟩)
  · have OK := Lib.hid (stOkB_iff.1 hok)
    have OKB := Lib.hid hok
    clear hok
    go_wp2_with fail
    refine (isIndex_any _ _ _).mono ?_
    rintro e w2 ⟨rfl, rfl⟩
    cases hin : inB a 0 (d.n3 - 1)
    · have HIN := Lib.hid hin
      clear hin
      go_wp2
      all_goals (go_ret; exact ⟨ret_bool (by rw [← HANS.out, OKB.out]; simp [mayGiveB, HIN.out]), T1.A.K⟩)
    · have HIN := Lib.hid hin
      obtain ⟨i, rfl, hi⟩ := index_nat (a := a) (n := d.n3) (by rw [hin]; decide)
      clear hin
      have hld : i < s.devs.length := by rw [OK.out.nd]; exact hi
      obtain ⟨m, hm, hml, hmp⟩ := dev_mnt OK.out.plan hi
      have hlm : m < s.mnts.length := by rw [OK.out.nm]; exact hml
      obtain ⟨b, off, rfl, hb, q0⟩ := (S3.out.own T1.A).cell1 hi
      obtain ⟨b', off', rfl, hb', hc⟩ := (R2.out.below T1.A.K (Nat.le_refl _)).cell hld
      have p0 := (hc 0 (by decide)).trans (devCs_at s.devs (i := i * 1 + 0) (by omega))
      rw [Nat.add_zero, Nat.mul_one] at p0
      obtain ⟨b2_, off2, rfl, hb2, hc2⟩ := (R1.out.below T1.A.K (Nat.le_refl _)).cell hlm
      have r0 := (hc2 0 (by decide)).trans (mntCs_at s.mnts hlm).1
      rw [Nat.add_zero] at r0
      clear hc hc2
      rw [hm] at q0
      have GB : Hid (giveB d s i = (devA s.devs i && !(mntA s.mnts m).1)) := Lib.hid (by unfold giveB; rw [hmp]; rfl)
      have HANS2 : Hid (ans = giveB d s i) := Lib.hid (by rw [← HANS.out, OKB.out]; simp [mayGiveB, HIN.out])
      generalize giveB d s i = g at GB HANS2
      generalize devA s.devs i = x at p0 GB
      generalize (mntA s.mnts m).1 = y at r0 GB
      clear hm hmp
      cases x
      · go_wp2
        all_goals (go_ret; exact ⟨ret_bool (by rw [HANS2.out, GB.out]; rfl), (T1.A).K⟩)
      · go_wp2_with fail
        go_quiet (fail)
        go_wp2
        all_goals (go_ret; exact ⟨ret_bool (by rw [HANS2.out, GB.out]; simp), (T1.A.drewN _).K⟩)

set_option maxRecDepth 100000 in
set_option maxHeartbeats 4000000 in
theorem implChildHeld_any (pv sv : Value) (d : PlanD) (s : StD) (i : Nat) (w : World) (hp : IsPlan w w.heap.size pv d) (hs : IsSt w w.heap.size sv s) (hok : StOk d s) :
    Calls Tryz.prog 176 #[pv, sv, .int .i64 i] w fun e w' => e = .returned (.bool (!(List.range d.n2).all (kidB d s i))) ∧ Below w.heap.size w w' := by
  have HP := Lib.hid hp
  have HS := Lib.hid hs
  obtain ⟨⟨P0, P1, P2, P3, k0, k1, k2, k3, rfl, s0, s1, s2, s3⟩, b0, b1, b2, b3⟩ := hp
  obtain ⟨⟨A0, A1, A2, A3, c0, c1, c2, c3, rfl, t0, t1, t2, t3⟩, f0, f1, f2, f3⟩ := hs
  have S0 := Lib.hid s0
  have S1 := Lib.hid s1
  have S2 := Lib.hid s2
  have S3 := Lib.hid s3
  have R0 := Lib.hid t0
  have R1 := Lib.hid t1
  have R2 := Lib.hid t2
  have R3 := Lib.hid t3
  unfold maxLen at b0 b1 b2 b3 f0 f1 f2 f3
  clear s0 s1 s2 s3 t0 t1 t2 t3
  have T0 := Two.start w (planC P0 P1 P2 P3 d.n0 k0 d.n1 k1 d.n2 k2 d.n3 k3 d.l d.p d.t) (stC A0 A1 A2 A3 s.pods.length c0 s.mnts.length c1 s.devs.length c2 s.lks.length c3 s.ph s.co s.ck s.bo s.ba s.lb s.gd s.pr) 44 49
  have HLN := Lib.hid hok.nm
  obtain ⟨ans, hans⟩ : ∃ ans, (List.range d.n2).all (kidB d s i) = ans := ⟨_, rfl⟩
  rw [hans]
  have HANS := Lib.hid hans
  clear hans hok
  have hC := T0.A.C
  have hD := T0.O.C
  go_enter Tryz.func176, Tryz.ntmps176
  go_wp2
  go_step3
  go_wp2
  go_step3
  go_wp2_with fail
  go_loopw [7, 13] (fun h j wr => h = .bool false ∧ ∃ k : Nat, k ≤ d.n2 ∧ j = .int .i64 k ∧ (∀ j, j < k → kidB d s i j = true) ∧ Two w wr (planC P0 P1 P2 P3 d.n0 k0 d.n1 k1 d.n2 k2 d.n3 k3 d.l d.p d.t) (stC A0 A1 A2 A3 s.pods.length c0 s.mnts.length c1 s.devs.length c2 s.lks.length c3 s.ph s.co s.ck s.bo s.ba s.lb s.gd s.pr)) (fun _ j _ => d.n2 - (intOf j).toNat)
  case atStart => exact ⟨rfl, 0, Nat.zero_le _, rfl, fun j hj => absurd hj (by omega), T0⟩
  case round =>
    clear hC hD T0
    obtain ⟨rfl, k, hk, rfl, hall, T⟩ := hrel
    have HALL := Lib.hid hall
    clear hall
    have hC := T.A.C
    have hD := T.O.C
    by_cases hlt : k < d.n2
    · have hlp : k < s.mnts.length := by rw [HLN.out]; exact hlt
      obtain ⟨b3_, off3, rfl, hb3, q0, q1⟩ := (S2.out.own T.A).cell2 hlt
      obtain ⟨b4_, off4, rfl, hb4, hc⟩ := (R1.out.below T.A.K (Nat.le_refl _)).cell hlp
      have r0 := (hc 0 (by decide)).trans (mntCs_at s.mnts (i := k) hlp).1
      rw [Nat.add_zero] at r0
      clear hc
      have KB : Hid (kidB d s i k = !(decide (d.x2 (k * 2 + 1) = i) && (mntA s.mnts k).1)) := Lib.hid rfl
      have HFALSE : Hid (kidB d s i k = false → ans = false) := Lib.hid fun h => by rw [← HANS.out, all_not hlt h]
      have HSTEP : Hid (kidB d s i k = true → ∀ j, j < k + 1 → kidB d s i j = true) := Lib.hid fun h => step_all HALL.out h
      have hz := T.A.z
      have hz' := T.O.z
      have hb4' : b4_ < wr.heap.size := Nat.lt_of_lt_of_le hb4 T.A.K.size
      generalize kidB d s i k = kb at KB HFALSE HSTEP
      generalize (mntA s.mnts k).1 = z at r0 KB
      generalize d.x2 (k * 2) = p at q0
      cases hv : (d.x2 (k * 2 + 1) != (i : Int))
      · cases z
        · have CF : Hid (kb = true) := Lib.hid (by rw [KB.out]; simp)
          clear KB HFALSE
          go_wp2
          refine ⟨⟨rfl, k + 1, by omega, by go_num, HSTEP.out CF.out, T.step ((Below.refl _ _).alloc (Nat.le_refl _) _)⟩, by simp [intOf]; omega⟩
        · have CF : Hid (kb = false) := Lib.hid (by rw [KB.out]; simp at hv; simp [hv])
          clear KB HSTEP
          go_wp2
          all_goals (first | rw [Exit.noGoto_ret] | skip); all_goals (go_ret; exact ⟨ret_bool (by rw [HFALSE.out CF.out]; rfl), (T.step ((Below.refl _ _).alloc (Nat.le_refl _) _)).A.K⟩)
      · have CF : Hid (kb = true) := Lib.hid (by rw [KB.out]; simp at hv; simp [hv])
        clear KB HFALSE
        go_wp2
        refine ⟨⟨rfl, k + 1, by omega, by go_num, HSTEP.out CF.out, T.step ((Below.refl _ _).alloc (Nat.le_refl _) _)⟩, by simp [intOf]; omega⟩
    · obtain rfl : k = d.n2 := by omega
      go_wp2
      all_goals (first | rw [Exit.noGoto_ret] | skip); all_goals (go_ret; exact ⟨ret_bool (by rw [← HANS.out, all_yes HALL.out]; rfl), T.A.K⟩)

set_option maxRecDepth 100000 in
set_option maxHeartbeats 4000000 in
theorem implMayFree_any (pv sv : Value) (d : PlanD) (s : StD) (a : Int) (w : World) (hp : IsPlan w w.heap.size pv d) (hs : IsSt w w.heap.size sv s) :
    Calls Tryz.prog 158 #[pv, sv, .int .i64 a] w fun e w' => e = .returned (.bool (stOkB d s && mayFreeB d s a)) ∧ Below w.heap.size w w' := by
  have HP := Lib.hid hp
  have HS := Lib.hid hs
  obtain ⟨⟨P0, P1, P2, P3, k0, k1, k2, k3, rfl, s0, s1, s2, s3⟩, b0, b1, b2, b3⟩ := hp
  obtain ⟨⟨A0, A1, A2, A3, c0, c1, c2, c3, rfl, t0, t1, t2, t3⟩, f0, f1, f2, f3⟩ := hs
  have S0 := Lib.hid s0
  have S1 := Lib.hid s1
  have S2 := Lib.hid s2
  have S3 := Lib.hid s3
  have R0 := Lib.hid t0
  have R1 := Lib.hid t1
  have R2 := Lib.hid t2
  have R3 := Lib.hid t3
  unfold maxLen at b0 b1 b2 b3 f0 f1 f2 f3
  clear s0 s1 s2 s3 t0 t1 t2 t3
  have T0 := Two.start w (planC P0 P1 P2 P3 d.n0 k0 d.n1 k1 d.n2 k2 d.n3 k3 d.l d.p d.t) (stC A0 A1 A2 A3 s.pods.length c0 s.mnts.length c1 s.devs.length c2 s.lks.length c3 s.ph s.co s.ck s.bo s.ba s.lb s.gd s.pr) 44 49
  obtain ⟨ans, hans⟩ : ∃ ans, (stOkB d s && mayFreeB d s a) = ans := ⟨_, rfl⟩
  rw [hans]
  have HANS := Lib.hid hans
  clear hans
  go_enter Tryz.func158, Tryz.ntmps158
  go_wp2_with fail
  refine (implStateOk_any _ _ d s _ ((HP.out.below T0.A.K (Nat.le_refl _)).more T0.A.K.size) ((HS.out.below T0.A.K (Nat.le_refl _)).more T0.A.K.size)).mono ?_
  rintro e w1 ⟨rfl, hb⟩
  have T1 := T0.step hb
  have hC := T1.A.C
  have hD := T1.O.C
  clear hb T0
  cases hok : stOkB d s
  · have OKB := Lib.hid hok
    clear hok
    go_wp2
    all_goals (go_ret; exact ⟨ret_bool (by rw [← HANS.out, OKB.out]; rfl), T1.A.K⟩)
  · have OK := Lib.hid (stOkB_iff.1 hok)
    have OKB := Lib.hid hok
    clear hok
    go_wp2_with fail
    refine (isIndex_any _ _ _).mono ?_
    rintro e w2 ⟨rfl, rfl⟩
    cases hin : inB a 0 (d.n2 - 1)
    · have HIN := Lib.hid hin
      clear hin
      go_wp2
      all_goals (go_ret; exact ⟨ret_bool (by rw [← HANS.out, OKB.out]; simp [mayFreeB, HIN.out]), T1.A.K⟩)
    · have HIN := Lib.hid hin
      obtain ⟨i, rfl, hi⟩ := index_nat (a := a) (n := d.n2) (by rw [hin]; decide)
      clear hin
      have HLN := Lib.hid OK.out.nm
      obtain ⟨m, hm, hml, hmp⟩ := mount_pod OK.out.plan hi
      have hlm : m < s.pods.length := by rw [OK.out.np]; exact hml
      obtain ⟨b, off, rfl, hb, q0, -⟩ := (S2.out.own T1.A).cell2 hi
      obtain ⟨b', off', rfl, hb', hc⟩ := (R1.out.below T1.A.K (Nat.le_refl _)).cell (i := i) (by rw [HLN.out]; exact hi)
      have p0 := (hc 0 (by decide)).trans (mntCs_at s.mnts (i := i) (by rw [HLN.out]; exact hi)).1
      obtain ⟨b2_, off2, rfl, hb2, hc2⟩ := (R0.out.below T1.A.K (Nat.le_refl _)).cell hlm
      have r0 := (hc2 0 (by decide)).trans (podCs_at s.pods hlm).1
      have r1 := (hc2 1 (by decide)).trans (podCs_at s.pods hlm).2
      rw [Nat.add_zero] at r0 p0
      clear hc hc2
      rw [hm] at q0
      have GB : Hid (ans = ((mntA s.mnts i).1 && !aliveB (podA s.pods m).1 && (List.range d.n2).all (kidB d s i))) := Lib.hid (by
        rw [← HANS.out, OKB.out, mayFreeB, HIN.out, Int.toNat_natCast]; unfold freeB; rw [hmp]; rfl)
      have hlti : i < s.mnts.length := by rw [HLN.out]; exact hi
      generalize hX : (mntA s.mnts i).1 = x at p0 GB
      generalize podA s.pods m = y at r0 r1 GB
      obtain ⟨y, z⟩ := y
      dsimp only at r0 r1 GB
      clear hX hm hmp HANS
      cases x
      · go_wp2
        all_goals (go_ret; exact ⟨ret_bool (by rw [GB.out]; rfl), T1.A.K⟩)
      · go_upto_region 3 with fail
        have hz := T1.A.z
        have hz' := T1.O.z
        have hzb : b < w1.heap.size := hb
        have hzb2 : b2_ < w1.heap.size := Nat.lt_of_lt_of_le hb2 T1.A.K.size
        go_cut [7] (fun s7 wx => ∃ g, s7 = .pointer (some ⟨g, 0, none⟩) ∧ wx.heap[g]? = some (.cells #[.int .i64 y, .int .i64 z] 123) ∧ Below w1.heap.size w1 wx)
        case first =>
          go_region
          all_goals (go_wp2_with fail; go_meet)
          all_goals
            apply Exists.intro
            refine ⟨rfl, ?h3, ?hb⟩
            case h3 => repeat (first | exact alloc_here (by simp) | refine (alloc_there (by simp <;> omega)).trans ?_)
            case hb => repeat (first | exact Below.refl _ _ | refine Below.drew ?_ | refine Below.alloc ?_ (by simp <;> omega) _)
        case rest =>
          obtain ⟨g, rfl, hg, Kx⟩ := hcut
          have T2 := T1.step Kx
          have XB : ∀ o, wc.cell? ⟨g, o, none⟩ = #[Value.int .i64 y, .int .i64 z][o]? := fun o => cell_of_row _ _ o _ _ _ hg
          clear T1 hC hD hz hz' q0 p0 r0 r1
          have hC := T2.A.C
          have hD := T2.O.C
          go_wp2_with fail
          refine (implAlive_any _ _).mono ?_
          rintro e w5 ⟨rfl, rfl⟩
          cases ha : aliveB y
          · have HAL := Lib.hid ha
            clear ha
            go_wp2_with fail
            refine (implChildHeld_any _ _ d s i _ ((HP.out.below T2.A.K (Nat.le_refl _)).more T2.A.K.size) ((HS.out.below T2.A.K (Nat.le_refl _)).more T2.A.K.size) OK.out).mono ?_
            rintro e w6 ⟨rfl, hb6⟩
            have T3 := T2.step hb6
            clear hb6 T2 hC hD
            generalize (List.range d.n2).all (kidB d s i) = u at GB ⊢
            go_wp2
            all_goals (go_ret; exact ⟨ret_bool (by rw [GB.out, HAL.out]; simp), T3.A.K⟩)
          · have HAL := Lib.hid ha
            clear ha
            go_wp2
            all_goals (go_ret; exact ⟨ret_bool (by rw [GB.out, HAL.out]; rfl), T2.A.K⟩)

end Go.Proofs.YtfilbodigooenaaGreatDoor
/- Jc -/
set_option linter.unusedVariables false
namespace Go.Proofs.YtfilbodigooenaaGreatDoor
open Go.RowKit

theorem index_any (L : List Int) (A : Option Addr) (c : Nat) (a : Int) (w : World) (h : SlV w w.heap.size 1 A L.length (lkCs L)) (hl : L.length ≤ maxLen) :
    Calls Tryz.prog 179 #[.slice A L.length c, .int .i64 a] w fun e w' => (∃ k : Nat, e = .returned (.int .i64 k) ∧ k ≤ 9223372036854775807 ∧ L.contains a = true ∨ e = .returned (.int .i64 (-1)) ∧ L.contains a = false) ∧ w = w' := by
  unfold maxLen at hl
  have H := Lib.hid h
  clear h
  obtain ⟨ans, hans⟩ : ∃ ans, L.contains a = ans := ⟨_, rfl⟩
  rw [hans]
  have HANS := Lib.hid hans
  clear hans
  go_enter Tryz.func179, Tryz.ntmps179
  go_wp2_with fail
  go_loopw [8] (fun j wr => ∃ k : Nat, k ≤ L.length ∧ j = .int .i64 k ∧ (∀ j, j < k → lkA L j ≠ a) ∧ w = wr) (fun j _ => L.length - (intOf j).toNat)
  case atStart => exact ⟨0, Nat.zero_le _, rfl, fun j hj => absurd hj (by omega), rfl⟩
  case round =>
    obtain ⟨k, hk, rfl, hall, rfl⟩ := hrel
    have HALL := Lib.hid hall
    clear hall
    by_cases hlt : k < L.length
    · obtain ⟨b', off', rfl, hb', hc⟩ := H.out.cell hlt
      have p0 := (hc 0 (by decide)).trans (lkCs_at L (i := k * 1 + 0) (by omega))
      rw [Nat.add_zero, Nat.mul_one] at p0
      clear hc
      have HYES : Hid (lkA L k = a → ans = true) := Lib.hid fun h => by rw [← HANS.out]; exact contains_at hlt h
      have HNO : Hid (lkA L k ≠ a → ∀ j, j < k + 1 → lkA L j ≠ a) := Lib.hid fun h j hj => by
        by_cases e : j = k
        · rw [e]; exact h
        · exact HALL.out j (by omega)
      generalize lkA L k = x at p0 HYES HNO
      cases hx : (a == x)
      · have HX : Hid (x ≠ a) := Lib.hid (by intro e; rw [e] at hx; simp at hx)
        go_wp2
        refine ⟨⟨k + 1, by omega, by go_num, HNO.out HX.out, by trivial⟩, by simp [intOf]; omega⟩
      · have HX : Hid (x = a) := Lib.hid (by have h : a = x := by simpa using hx
                                             exact h.symm)
        go_wp2
        all_goals (go_ret; exact ⟨⟨k, .inl ⟨rfl, by omega, HYES.out HX.out⟩⟩, rfl⟩)
    · obtain rfl : k = L.length := by omega
      go_wp2
      all_goals (go_ret; exact ⟨⟨0, .inr ⟨rfl, by rw [← HANS.out, contains_no HALL.out]⟩⟩, rfl⟩)
theorem contains_any (L : List Int) (A : Option Addr) (c : Nat) (a : Int) (w : World) (h : SlV w w.heap.size 1 A L.length (lkCs L)) (hl : L.length ≤ maxLen) :
    Calls Tryz.prog 171 #[.slice A L.length c, .int .i64 a] w fun e w' => e = .returned (.bool (L.contains a)) ∧ w = w' := by
  have H := Lib.hid h
  clear h
  obtain ⟨ans, hans⟩ : ∃ ans, L.contains a = ans := ⟨_, rfl⟩
  rw [hans]
  have HANS := Lib.hid hans
  clear hans
  go_enter Tryz.func171, Tryz.ntmps171
  go_wp2_with fail
  refine (index_any L A c a w H.out hl).mono ?_
  rw [HANS.out]
  rintro e w1 ⟨⟨k, ⟨rfl, hk, hc⟩ | ⟨rfl, hc⟩⟩, rfl⟩
  · have HC := Lib.hid hc
    clear hc
    go_wp2
    all_goals (go_ret; exact ⟨by rw [HC.out]; rfl, rfl⟩)
  · have HC := Lib.hid hc
    clear hc
    go_wp2
    all_goals (go_ret; exact ⟨by rw [HC.out]; rfl, rfl⟩)
end Go.Proofs.YtfilbodigooenaaGreatDoor
/- Mb -/
set_option linter.unusedVariables false
namespace Go.Proofs.YtfilbodigooenaaGreatDoor
open Go.RowKit Go.Maps

theorem mem_hits {n : Nat} {f : Nat → Int} {b x : Int} : x ∈ hits n f b ↔ (0 ≤ x ∧ x < n) ∧ f x.toNat = b := by
  constructor
  · intro h
    obtain ⟨i, hi, rfl, e⟩ := hits_mem h
    exact ⟨by omega, by simpa using e⟩
  · rintro ⟨⟨h0, h1⟩, e⟩
    have := hits_in (f := f) (n := n) (i := x.toNat) (by omega)
    rw [e] at this
    rwa [Int.toNat_of_nonneg h0] at this
theorem hits_rise (n : Nat) (f : Nat → Int) (b : Int) : (hits n f b).Pairwise (· < ·) := picks_rise n fun i => f i == b
theorem take_one {L : List Int} {k : Nat} (hk : k < L.length) : L.take (k + 1) = L.take k ++ [L.getD k 0] := by
  rw [List.take_add_one]
  simp [List.getD, hk]
theorem not_taken {L : List Int} (hp : L.Pairwise (· < ·)) {k : Nat} (hk : k < L.length) : L.getD k 0 ∉ L.take k := by
  intro hm
  have e := take_one hk
  have h2 : (L.take (k + 1)).Pairwise (· < ·) := hp.sublist (List.take_sublist _ _)
  rw [e, List.pairwise_append] at h2
  have := h2.2.2 _ hm _ (List.mem_singleton.2 rfl)
  omega
theorem SetD.one {D : DataW Unit} {L : List Int} (hp : L.Pairwise (· < ·)) {k : Nat} (hk : k < L.length) (h : SetD D (fun i => decide (i ∈ L.take k)) k) :
    SetD (D.put (.int .i64 (L.getD k 0)) (.lit (.bool true))) (fun i => decide (i ∈ L.take (k + 1))) (k + 1) := by
  refine (h.put (L.getD k 0) (by simpa using not_taken hp hk)).congr (fun i => ?_) rfl
  rw [take_one hk]
  simp [List.mem_append]

def leftQ (d : PlanD) (s : StD) (g : Int) (k i : Nat) : Bool := decide (d.x0 (i * 4) = g) && (decide (k ≤ i) || decide ((podA s.pods i).1 = 0))
def leftF (d : PlanD) (s : StD) (g : Int) (k : Nat) (i : Int) : Bool := (decide (0 ≤ i) && decide (i < d.n0)) && leftQ d s g k i.toNat
def leftN (d : PlanD) (s : StD) (g : Int) (k : Nat) : Nat := (List.range d.n0).countP (leftQ d s g k)
theorem left_start {D : DataW Unit} {d : PlanD} {s : StD} {g : Int} {L : List Int} (hL : L = hits d.n0 (fun i => d.x0 (i * 4)) g) (h : SetD D (fun i => decide (i ∈ L.take L.length)) L.length) : SetD D (leftF d s g 0) (leftN d s g 0) := by
  subst hL
  refine h.congr (fun i => ?_) ?_
  · rw [List.take_length]
    unfold leftF leftQ
    rw [Bool.eq_iff_iff]
    simp [mem_hits]
  · unfold leftN leftQ
    simp [hits, List.countP_eq_length_filter, BEq.beq]
theorem leftQ_next {d : PlanD} {s : StD} {g : Int} {k i : Nat} (h : i = k → (podA s.pods k).1 = 0) : leftQ d s g k i = leftQ d s g (k + 1) i := by
  unfold leftQ
  by_cases e : i = k
  · subst e
    simp [h rfl]
  · have : (k ≤ i) ↔ (k + 1 ≤ i) := by omega
    simp only [this]
theorem left_stay {D : DataW Unit} {d : PlanD} {s : StD} {g : Int} {k : Nat} (h : SetD D (leftF d s g k) (leftN d s g k)) (hr : (podA s.pods k).1 = 0) : SetD D (leftF d s g (k + 1)) (leftN d s g (k + 1)) := by
  have e : leftQ d s g k = leftQ d s g (k + 1) := funext fun i => leftQ_next fun _ => hr
  refine h.congr (fun i => ?_) ?_
  · unfold leftF; rw [e]
  · unfold leftN; rw [e]
theorem left_drop {D : DataW Unit} {d : PlanD} {s : StD} {g : Int} {k : Nat} (h : SetD D (leftF d s g k) (leftN d s g k)) (hk : k < d.n0) (hr : (podA s.pods k).1 ≠ 0) : SetD (D.del (.int .i64 k)) (leftF d s g (k + 1)) (leftN d s g (k + 1)) := by
  have h0 : leftQ d s g (k + 1) k = false := by
    unfold leftQ
    have : ¬ (k + 1 ≤ k) := by omega
    simp [this, hr]
  refine (h.del k).congr (fun i => ?_) ?_
  · unfold leftF
    by_cases e : i = (k : Int)
    · subst e
      rw [Int.toNat_natCast, h0]
      simp
    · by_cases e2 : 0 ≤ i
      · rw [leftQ_next (k := k) (i := i.toNat) (fun e3 => absurd (by omega) e)]
        simp [e]
      · simp [e2]
  · have hF : leftF d s g k k = leftQ d s g k k := by
      unfold leftF
      rw [Int.toNat_natCast]
      have : (k : Int) < d.n0 := by omega
      simp [this]
    rw [hF]
    unfold leftN
    cases hq : leftQ d s g k k
    · have e : ∀ i, leftQ d s g k i = leftQ d s g (k + 1) i := fun i => by
        by_cases e : i = k
        · rw [e, hq, h0]
        · exact leftQ_next fun e2 => absurd e2 e
      rw [show leftQ d s g k = leftQ d s g (k + 1) from funext e]
      simp
    · have := count_flip hq h0 (fun j hj => leftQ_next fun e2 => absurd e2 hj) d.n0
      rw [if_pos hk] at this
      rw [this]
      simp
theorem left_end {D : DataW Unit} {d : PlanD} {s : StD} {g : Int} (h : SetD D (leftF d s g d.n0) (leftN d s g d.n0)) : (∀ i : Nat, i < d.n0 → D.atKey (.int .i64 i) (.lit (.bool false)) = .lit (.bool (hP d s g i))) ∧ (Go.Maps.size D : Int) = healthyN d s g := by
  have e : ∀ i, i < d.n0 → leftQ d s g d.n0 i = hP d s g i := fun i hi => by
    unfold leftQ hP
    have : ¬ (d.n0 ≤ i) := by omega
    simp [this]
  refine ⟨fun i hi => ?_, ?_⟩
  · rw [h.at_]
    unfold leftF
    rw [Int.toNat_natCast, e i hi]
    have : (i : Int) < d.n0 := by omega
    simp [this]
  · rw [h.size_, healthyN_count]
    unfold leftN
    congr 1
    exact List.countP_congr fun i hi => by rw [e i (List.mem_range.1 hi)]
end Go.Proofs.YtfilbodigooenaaGreatDoor
/- Mc -/
set_option linter.unusedVariables false
namespace Go.Proofs.YtfilbodigooenaaGreatDoor
open Go.RowKit Go.Maps

theorem law64 : Keyed Tryz.prog 2 := int_keyed Tryz.underlying2
theorem zero_bool (w : World) : (zeroValue 4).run Tryz.prog w = .ok (.bool false) w := by kernel_rfl
theorem Keeps.of_grownM {w w' : World} {b : Nat} (h : w.grownBy w' (some b)) : Keeps (fun x => x = b) w w' := by
  obtain ⟨h1, h2, h3, h4, h5⟩ := h
  exact ⟨h1, h2, h3, h4, fun i hi hn => h5 i hi (fun e => hn (by cases e; rfl))⟩
theorem Two.keepB {w w1 w2 : World} {cs os : Array Value} {b : Nat} (h : Two w w1 cs os) (hg : w1.grownBy w2 (some b)) (hb : w.heap.size + 2 ≤ b) : Two w w2 cs os :=
  ⟨h.A.keeps (Keeps.of_grownM hg) (by intro x hx; omega) (by omega), h.O.keeps (Keeps.of_grownM hg) (by intro x hx; omega) (by omega)⟩
/-- What leftIn answers: a map of the call's own. -/
def LeftIn (w : World) (d : PlanD) (s : StD) (g : Int) (e : Ending) (w' : World) : Prop :=
  ∃ B n D, e = .returned (.map (some B)) ∧ w'.ownsMap Tryz.prog 2 (plainElem (H := Unit) Tryz.prog 4) B n D ∧ (∀ i : Nat, i < d.n0 → D.atKey (.int .i64 i) (.lit (.bool false)) = .lit (.bool (hP d s g i))) ∧
    (Go.Maps.size D : Int) = healthyN d s g ∧ Below w.heap.size w w'

set_option maxRecDepth 100000 in
set_option maxHeartbeats 4000000 in
theorem implLeftIn_any (pv sv : Value) (d : PlanD) (s : StD) (g : Int) (w : World) (hp : IsPlan w w.heap.size pv d) (hs : IsSt w w.heap.size sv s) (hok : StOk d s) :
    Calls Tryz.prog 177 #[pv, sv, .int .i64 g] w (LeftIn w d s g) := by
  have HP := Lib.hid hp
  have HS := Lib.hid hs
  have OK := Lib.hid hok
  have HL := Lib.hid (planOk_lock hok.plan)
  obtain ⟨⟨P0, P1, P2, P3, k0, k1, k2, k3, rfl, -, -, -, -⟩, b0, b1, b2, b3⟩ := hp
  obtain ⟨⟨A0, A1, A2, A3, c0, c1, c2, c3, rfl, t0, -, -, -⟩, f0, f1, f2, f3⟩ := hs
  have R0 := Lib.hid t0
  clear t0 hok
  unfold maxLen at b0 b1 b2 b3 f0 f1 f2 f3
  have T0 := Two.start w (planC P0 P1 P2 P3 d.n0 k0 d.n1 k1 d.n2 k2 d.n3 k3 d.l d.p d.t) (stC A0 A1 A2 A3 s.pods.length c0 s.mnts.length c1 s.devs.length c2 s.lks.length c3 s.ph s.co s.ck s.bo s.ba s.lb s.gd s.pr) 44 49
  have hmm := @run_makeMap Tryz.prog
  go_enter Tryz.func177, Tryz.ntmps177
  go_wp2_with fail
  have T1 := T0.step ((Below.refl _ _).alloc (Nat.le_refl _) (.map #[] 0))
  have M1 := World.ownsMap_made ((w.alloc (.cells (planC P0 P1 P2 P3 d.n0 k0 d.n1 k1 d.n2 k2 d.n3 k3 d.l d.p d.t) 44)).alloc (.cells (stC A0 A1 A2 A3 s.pods.length c0 s.mnts.length c1 s.devs.length c2 s.lks.length c3 s.ph s.co s.ck s.bo s.ba s.lb s.gd s.pr) 49)) Tryz.prog 2 (plainElem (H := Unit) Tryz.prog 4)
  simp only [heap_size_alloc_] at M1
  refine (implPodsIn_any _ d g _ ((HP.out.below T1.A.K (Nat.le_refl _)).more T1.A.K.size) (by have := HL.out; omega)).mono ?_
  rintro e w2 ⟨v, rfl, O, hb⟩
  rw [found_yes OK.out.plan] at O
  obtain ⟨L, hL⟩ : ∃ L, hits d.n0 (fun i => d.x0 (i * 4)) g = L := ⟨_, rfl⟩
  rw [hL] at O
  obtain ⟨Q, c, r0, rfl, hQ, hB, hz, R⟩ := open_list O
  have T2 := T1.step hb
  have M2 := M1.kept (row := none) ⟨hb.os, hb.tape, hb.output, hb.size, fun k hk _ => hb.block k hk⟩ (by simp)
  have HQ := Lib.hid hQ
  have HR := Lib.hid R
  have HB := Lib.hid hB
  have HLn : Hid (L.length ≤ 12) := Lib.hid (by rw [← hL]; have := hits_le d.n0 (fun i => d.x0 (i * 4)) g; have := HL.out; omega)
  have HLR : Hid (L.Pairwise (· < ·)) := Lib.hid (by rw [← hL]; exact hits_rise _ _ _)
  have HLW : Hid (∀ k, k < L.length → (Lit.int .i64 (L.getD k 0)).wf = true) := Lib.hid fun k hk => by
    have hm : L.getD k 0 ∈ hits d.n0 (fun i => d.x0 (i * 4)) g := by
      rw [hL]
      simp [List.getD, hk]
    have := mem_hits.1 hm
    have := HL.out
    exact WalkArith.wf_i64 (by omega)
  have HLL := Lib.hid hL.symm
  simp only [heap_size_alloc_] at hB
  have HB := Lib.hid hB
  have HZ := Lib.hid hz
  have HR := Lib.hid R
  clear hL hQ hB hz R O M1 T1 T0 hb
  have hln := HLn.out
  go_wp2_with fail
  go_loopw [17] (fun i wr => ∃ (k : Nat) (D : DataW Unit), k ≤ L.length ∧ i = .int .i64 k ∧ wr.ownsMap Tryz.prog 2 (plainElem Tryz.prog 4) (w.heap.size + 1 + 1) k D ∧ SetD D (fun i => decide (i ∈ L.take k)) k ∧ Keeps (fun x => x = w.heap.size + 1 + 1) w2 wr ∧ Two w wr (planC P0 P1 P2 P3 d.n0 k0 d.n1 k1 d.n2 k2 d.n3 k3 d.l d.p d.t) (stC A0 A1 A2 A3 s.pods.length c0 s.mnts.length c1 s.devs.length c2 s.lks.length c3 s.ph s.co s.ck s.bo s.ba s.lb s.gd s.pr)) (fun i _ => L.length - (intOf i).toNat)
  case atStart => exact ⟨0, _, Nat.zero_le _, rfl, M2, SetD.empty.congr (fun i => by simp) rfl, Keeps.refl _ _, T2⟩
  case round =>
    clear M2 T2
    obtain ⟨k, D, hk, rfl, M, hS, hK, T⟩ := hrel
    have HM := Lib.hid M
    have HSD := Lib.hid hS
    have HK := Lib.hid hK
    clear M hS hK
    have hC := T.A.C
    have hD := T.O.C
    by_cases hlt : k < L.length
    · have e0 := HQ.out (by omega)
      subst e0
      have q0 := ((HR.out.goK HZ.out HK.out (fun hn e => by have := HB.out; omega)) k hlt).1
      have hkey : keyOf Tryz.prog 2 (.int .i64 (L.getD k 0)) = some (.int .i64 (L.getD k 0)) := keyOf_int_mk Tryz.underlying2 (HLW.out k hlt)
      have HKEY := Lib.hid hkey
      have HSN := Lib.hid (HSD.out.one HLR.out hlt)
      clear hkey
      generalize L.getD k 0 = x at *
      go_wp2_with (first
        | (at_mapUpdate; refine wpList_mapUpdate_own _ rfl _ _ _ 224 rfl 2 4 law64 Tryz.underlying224 _ (w.heap.size + 1 + 1) k _ rfl HM.out (by unfold maxLen; omega) _ _ _ rfl rfl HKEY.out _ [] (plainElem_bool Tryz.underlying4 true) ?_; intro w1 hown1 hgrow1))
      refine ⟨⟨k + 1, _, by omega, by go_num, hown1, HSN.out, HK.out.trans (Keeps.of_grownM hgrow1), T.keepB hgrow1 (by omega)⟩, by simp [intOf]; omega⟩
    · obtain rfl : k = L.length := by omega
      have HST := Lib.hid (left_start (s := s) HLL.out HSD.out)
      clear HSD HK HR HQ HZ HB
      obtain ⟨hp, hnp⟩ : s.pods.length ≤ 12 ∧ s.pods.length = d.n0 := by have := OK.out.np; have := HL.out; omega
      have HNP := Lib.hid hnp
      clear hnp
      go_wp2_with fail
      go_loopw [27] (fun i wr => ∃ (k : Nat) (D : DataW Unit), k ≤ s.pods.length ∧ i = .int .i64 k ∧ wr.ownsMap Tryz.prog 2 (plainElem Tryz.prog 4) (w.heap.size + 1 + 1) L.length D ∧ SetD D (leftF d s g k) (leftN d s g k) ∧ Two w wr (planC P0 P1 P2 P3 d.n0 k0 d.n1 k1 d.n2 k2 d.n3 k3 d.l d.p d.t) (stC A0 A1 A2 A3 s.pods.length c0 s.mnts.length c1 s.devs.length c2 s.lks.length c3 s.ph s.co s.ck s.bo s.ba s.lb s.gd s.pr)) (fun i _ => s.pods.length - (intOf i).toNat)
      case atStart => exact ⟨0, _, Nat.zero_le _, rfl, HM.out, HST.out, T⟩
      case round =>
        clear HM HST T hC hD
        obtain ⟨k, D, hk, rfl, M, hS, T⟩ := hrel
        have HM := Lib.hid M
        have HSD := Lib.hid hS
        clear M hS
        have hC := T.A.C
        have hD := T.O.C
        by_cases hlt : k < s.pods.length
        · obtain ⟨b, off, rfl, hb, hc⟩ := (R0.out.below T.A.K (Nat.le_refl _)).cell hlt
          have hp := podCs_at s.pods (i := k) hlt
          have q0 := (hc 0 (by decide)).trans hp.1
          have q1 := (hc 1 (by decide)).trans hp.2
          rw [Nat.add_zero] at q0
          clear hc hp
          have hk0 : k < d.n0 := by have := HNP.out; omega
          have hkey : keyOf Tryz.prog 2 (.int .i64 k) = some (.int .i64 k) := keyOf_int_mk Tryz.underlying2 (WalkArith.wf_i64 (by omega))
          have HKEY := Lib.hid hkey
          clear hkey
          by_cases hx : (podA s.pods k).1 = 0
          · have HN := Lib.hid (left_stay HSD.out hx)
            generalize podA s.pods k = r at q0 q1 hx
            obtain ⟨x, y⟩ := r
            dsimp only at q0 q1 hx
            subst hx
            go_wp2_with fail
            refine ⟨⟨k + 1, D, by omega, by go_num, HM.out.alloc _, HN.out, T.step ((Below.refl _ _).alloc (Nat.le_refl _) _)⟩, by simp [intOf]; omega⟩
          · have HN := Lib.hid (left_drop HSD.out hk0 hx)
            generalize podA s.pods k = r at q0 q1 hx
            obtain ⟨x, y⟩ := r
            dsimp only at q0 q1 hx
            go_wp2_with (first
              | (at_delete; refine wpList_delete_own _ rfl _ _ 224 2 rfl 4 law64 Tryz.underlying224 _ (w.heap.size + 1 + 1) L.length D rfl (HM.out.alloc _) _ _ rfl HKEY.out ?_; intro w1 hown1 hturn1))
            refine ⟨⟨k + 1, _, by omega, by go_num, hown1, HN.out, (T.step ((Below.refl _ _).alloc (Nat.le_refl _) _)).keepB hturn1.grown (by omega)⟩, by simp [intOf]; omega⟩
        · obtain rfl : k = s.pods.length := by omega
          have HE := Lib.hid (left_end (by have := HSD.out; rw [HNP.out] at this; exact this))
          clear HSD
          go_wp2_with fail
          go_ret
          exact ⟨_, _, D, rfl, HM.out, HE.out.1, HE.out.2, T.A.K⟩

set_option maxRecDepth 100000 in
set_option maxHeartbeats 4000000 in
theorem implMayEvict_any (pv sv : Value) (d : PlanD) (s : StD) (a : Int) (w : World) (hp : IsPlan w w.heap.size pv d) (hs : IsSt w w.heap.size sv s) :
    Calls Tryz.prog 168 #[pv, sv, .int .i64 a] w fun e w' => e = .returned (.bool (stOkB d s && mayEvictB d s a)) ∧ Below w.heap.size w w' := by
  have HP := Lib.hid hp
  have HS := Lib.hid hs
  obtain ⟨⟨P0, P1, P2, P3, k0, k1, k2, k3, rfl, s0, s1, -, -⟩, b0, b1, b2, b3⟩ := hp
  obtain ⟨⟨A0, A1, A2, A3, c0, c1, c2, c3, rfl, -, -, -, -⟩, f0, f1, f2, f3⟩ := hs
  have S0 := Lib.hid s0
  have S1 := Lib.hid s1
  unfold maxLen at b0 b1 b2 b3 f0 f1 f2 f3
  clear s0 s1
  have T0 := Two.start w (planC P0 P1 P2 P3 d.n0 k0 d.n1 k1 d.n2 k2 d.n3 k3 d.l d.p d.t) (stC A0 A1 A2 A3 s.pods.length c0 s.mnts.length c1 s.devs.length c2 s.lks.length c3 s.ph s.co s.ck s.bo s.ba s.lb s.gd s.pr) 44 49
  obtain ⟨ans, hans⟩ : ∃ ans, (stOkB d s && mayEvictB d s a) = ans := ⟨_, rfl⟩
  rw [hans]
  have HANS := Lib.hid hans
  clear hans
  go_enter Tryz.func168, Tryz.ntmps168
  go_wp2_with fail
  refine (implStateOk_any _ _ d s _ ((HP.out.below T0.A.K (Nat.le_refl _)).more T0.A.K.size) ((HS.out.below T0.A.K (Nat.le_refl _)).more T0.A.K.size)).mono ?_
  rintro e w1 ⟨rfl, hb⟩
  have T1 := T0.step hb
  have hC := T1.A.C
  have hD := T1.O.C
  clear hb T0
  cases hok : stOkB d s
  · have OKB := Lib.hid hok
    clear hok
    go_wp2
    all_goals (go_ret; exact ⟨ret_bool (by rw [← HANS.out, OKB.out]; rfl), T1.A.K⟩)
  · have OK := Lib.hid (stOkB_iff.1 hok)
    have OKB := Lib.hid hok
    clear hok
    cases hph : (s.ph != 2)
    case true =>
      have HPH : Hid (¬ s.ph = 2) := Lib.hid (by simpa using hph)
      go_wp2
      all_goals (go_ret; exact ⟨ret_bool (by rw [← HANS.out, OKB.out]; simp [mayEvictB, HPH.out]), T1.A.K⟩)
    case false =>
      have HPH : Hid (s.ph = 2) := Lib.hid (by simpa using hph)
      go_wp2_with fail
      refine (isIndex_any _ _ _).mono ?_
      rintro e w2 ⟨rfl, rfl⟩
      cases hin : inB a 0 (d.n0 - 1)
      · have HIN := Lib.hid hin
        clear hin
        go_wp2
        all_goals (go_ret; exact ⟨ret_bool (by rw [← HANS.out, OKB.out]; simp [mayEvictB, HIN.out]), T1.A.K⟩)
      · have HIN := Lib.hid hin
        obtain ⟨i, rfl, hi⟩ := index_nat (a := a) (n := d.n0) (by rw [hin]; decide)
        clear hin hph
        obtain ⟨m, hm, hml⟩ := pod_group OK.out.plan hi
        have HANS2 : Hid (ans = (hP d s m i && decide (d.x1 m < healthyN d s m))) := Lib.hid (by
          rw [← HANS.out, OKB.out, mayEvictB, HIN.out, HPH.out, Int.toNat_natCast, hm, Int.toNat_natCast]
          simp [podAt, podA, hP, hm])
        obtain ⟨b, off, rfl, hb, q0, -, -, -⟩ := (S0.out.own T1.A).cell4 hi
        rw [hm] at q0
        clear hm
        go_wp2_with fail
        refine (implLeftIn_any _ _ d s m _ ((HP.out.below T1.A.K (Nat.le_refl _)).more T1.A.K.size) ((HS.out.below T1.A.K (Nat.le_refl _)).more T1.A.K.size) OK.out).mono ?_
        rintro e w3 ⟨B, n, D, rfl, hown, hat, hsz, hb3⟩
        have T3 := T1.step hb3
        obtain ⟨b1_, off1, rfl, hb1, r0⟩ := (S1.out.below T3.A.K (Nat.le_refl _)).cell1 hml
        have hi12 : i < 1000 := by have := planOk_lock OK.out.plan; omega
        have hkey : keyOf Tryz.prog 2 (.int .i64 i) = some (.int .i64 i) := keyOf_int_mk Tryz.underlying2 (WalkArith.wf_i64 (by omega))
        have hlk : ∀ q, (Instr.lookup 224 (.map (some B)) (.int .i64 i) false).run Tryz.prog (w3.drewN q) = .ok (.bool (hP d s m i)) (w3.drewN q) := fun q => by
          have hown' : (w3.drewN q).ownsMap Tryz.prog 2 (plainElem (H := Unit) Tryz.prog 4) B n D := hown.kept (row := none) ⟨(below_drewN (Below.refl w3.heap.size w3) q).os, (below_drewN (Below.refl w3.heap.size w3) q).tape, (below_drewN (Below.refl w3.heap.size w3) q).output, (below_drewN (Below.refl w3.heap.size w3) q).size, fun k hk _ => (below_drewN (Below.refl w3.heap.size w3) q).block k hk⟩ (by simp)
          obtain ⟨v, ps, hrun, hv⟩ := hown'.lookup law64 Tryz.underlying224 (zero_bool _) (plainElem_bool Tryz.underlying4 false) hkey
          obtain ⟨x, rfl, hx⟩ := plainElem_bool_is Tryz.underlying4 hv
          rw [hat i hi] at hx
          simp only [Prod.mk.injEq, DataW.lit.injEq, Lit.bool.injEq] at hx
          rw [hx.1]
          exact hrun
        have hlen : ∀ q ty, (Builtin.len_ #[224] ty #[.map (some B)]).run Tryz.prog (w3.drewN q) = .ok (.int .i64 (healthyN d s m)) (w3.drewN q) := fun q ty => by
          have hown' : (w3.drewN q).ownsMap Tryz.prog 2 (plainElem (H := Unit) Tryz.prog 4) B n D := hown.kept (row := none) ⟨(below_drewN (Below.refl w3.heap.size w3) q).os, (below_drewN (Below.refl w3.heap.size w3) q).tape, (below_drewN (Below.refl w3.heap.size w3) q).output, (below_drewN (Below.refl w3.heap.size w3) q).size, fun k hk _ => (below_drewN (Below.refl w3.heap.size w3) q).block k hk⟩ (by simp)
          rw [← hsz]
          exact hown'.len Tryz.underlying224 ty
        clear hown hat hsz hkey hb3 T1 hC hD q0 hb
        have hC := T3.A.C
        have hD := T3.O.C
        generalize healthyN d s m = hn at *
        cases hp : hP d s m i
        · rw [hp] at hlk HANS2
          go_wp2_with fail
          go_quiet (fail)
          go_wp2
          all_goals (go_ret; exact ⟨ret_bool (by rw [HANS2.out]; rfl), below_drewN T3.A.K _⟩)
        · rw [hp] at hlk HANS2
          go_wp2_with fail
          go_quiet (fail)
          go_wp2
          all_goals (go_ret; exact ⟨ret_bool (by rw [HANS2.out]; simp), below_drewN T3.A.K _⟩)
end Go.Proofs.YtfilbodigooenaaGreatDoor
