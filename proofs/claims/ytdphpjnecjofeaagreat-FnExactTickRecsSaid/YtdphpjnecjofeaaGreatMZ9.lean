/-
  The program's StateOk: a state beside its plan.
-/
import Derived.Test.YtdphpjnecjofeaaGreatMZ8
import Derived.Deep.DeepCutAuto
import Derived.Test.YtdphpjnecjofeaaGreatMZxUo
import Derived.Test.YtdphpjnecjofeaaGreatMZxVx
/- Wk -/
set_option linter.unusedVariables false
namespace Go.Proofs.YtdphpjnecjofeaaGreat
open Go.RowKit

/-- What a pod of the band becomes. -/
def elemG (d : PlanD) (s : StD) (c : Int) (i : Int) : Option RecD :=
  if aliveB (podAt s i.toNat).1 then (if podStep (hookOf d i.toNat) (graceOf d i.toNat) (podAt s i.toNat) c = (podAt s i.toNat).1 then none else some ⟨2, i, podStep (hookOf d i.toNat) (graceOf d i.toNat) (podAt s i.toNat) c⟩) else none
theorem podsL_hits {d : PlanD} (h : planOkB d = true) (b : Int) : podsL d b = ((List.range d.n0).filter (fun i => bandOf d i == b)).map (fun i : Nat => (i : Int)) := by
  unfold podsL
  rw [found_yes h]
  rfl
theorem elem_recs {d : PlanD} {s : StD} (h : planOkB d = true) (b c : Int) : (podsL d b).filterMap (elemG d s c) = recsOf d.n0 (stepG d s b c) (fun i x => ⟨2, i, x⟩) := by
  rw [podsL_hits h, List.filterMap_map, List.filterMap_filter]
  unfold recsOf
  congr 1
  funext i
  simp only [Function.comp, elemG, stepG, Int.toNat_natCast, beq_iff_eq]
  by_cases h1 : bandOf d i = b
  · by_cases h2 : aliveB (podAt s i).1 = true
    · by_cases h3 : podStep (hookOf d i) (graceOf d i) (podAt s i) c = (podAt s i).1 <;> simp [h1, h2, h3]
    · simp [h1, h2]
  · simp [h1]
theorem elem_live {d : PlanD} {s : StD} (h : planOkB d = true) (b : Int) : (podsL d b).any (fun i => aliveB (podAt s i.toNat).1) = liveB d s b := by
  rw [podsL_hits h, List.any_map, List.any_filter]
  unfold liveB
  congr 1
theorem elem_none {d : PlanD} {s : StD} {c : Int} : ∀ {L : List Int}, L.any (fun i => aliveB (podAt s i.toNat).1) = false → L.filterMap (elemG d s c) = []
  | [], _ => rfl
  | i :: L, h => by
    rw [List.any_cons, Bool.or_eq_false_iff] at h
    rw [List.filterMap_cons, elem_none h.2]
    unfold elemG
    rw [h.1]
    rfl
theorem podsL_in {d : PlanD} {b : Int} {k : Nat} (hk : k < (podsL d b).length) : ∃ i : Nat, (podsL d b)[k]? = some (i : Int) ∧ i < d.n0 := by
  obtain ⟨i, hi, e, -⟩ := podsL_at hk
  rw [List.getD_eq_getElem?_getD, List.getElem?_eq_getElem hk] at e
  exact ⟨i, by rw [List.getElem?_eq_getElem hk]; exact congrArg some e, hi⟩
theorem list_at {w : World} {B n c : Nat} {A : Option Addr} {L : List Int} (h : w.ownsRow B 2 1 (.slice A n c) n (L.map (Value.int .i64))) {k : Nat} {x : Int} (hx : L[k]? = some x) :
    ∃ b off, A = some ⟨b, off, none⟩ ∧ b < w.heap.size ∧ w.cell? ⟨b, off + k, none⟩ = some (.int .i64 x) := by
  obtain ⟨A', c', e, -, S⟩ := open_rowR h
  injection e with e1 e2 e3
  subst e1 e3
  have hl := S.len
  have hk : k < L.length := (List.getElem?_eq_some_iff.1 hx).1
  obtain ⟨b, off, rfl, hb, hc⟩ := S.cell (i := k) (by simp at hl; omega)
  have := hc 0 (by decide)
  rw [Nat.add_zero, Nat.mul_one, Nat.add_zero] at this
  exact ⟨b, off, rfl, hb, this.trans (by simp [hx])⟩
theorem two_row {w : World} {g : Nat} {x y : Value} {t : TypeId} (h : w.heap[g]? = some (.cells #[x, y] t)) : ∀ o, w.cell? ⟨g, o, none⟩ = #[x, y][o]? := fun o => cell_of_row _ _ _ _ _ _ h
theorem take_at {L : List Int} {k : Nat} {i : Int} (h : L[k]? = some i) : L.take (k + 1) = L.take k ++ [i] := by
  rw [List.take_add_one, h]
  rfl
theorem shutL_live {d : PlanD} {s : StD} {c : Int} (hp : planOkB d = true) (h1 : ¬ (s.lks ≠ [] ∧ c < s.lb)) (h2 : ¬ s.ba = 6) (h3 : (podsL d s.ba).any (fun i => aliveB (podAt s i.toNat).1) = true) : shutL d s c = (podsL d s.ba).filterMap (elemG d s c) := by
  unfold shutL
  rw [if_neg h1, if_neg h2, if_pos (by rw [← elem_live hp]; exact h3), elem_recs hp]
theorem shutL_dead {d : PlanD} {s : StD} {c : Int} (hp : planOkB d = true) (h1 : ¬ (s.lks ≠ [] ∧ c < s.lb)) (h2 : ¬ s.ba = 6) (h3 : (podsL d s.ba).any (fun i => aliveB (podAt s i.toNat).1) = false) : shutL d s c = (podsL d s.ba).filterMap (elemG d s c) ++ [⟨9, nextB d s.ba, 0⟩] := by
  unfold shutL
  rw [if_neg h1, if_neg h2, if_neg (by rw [← elem_live hp, h3]; decide), elem_none h3]
  rfl

set_option maxRecDepth 4000 in
set_option maxHeartbeats 16000000 in
theorem l11Shutting_any (pv sv : Value) (d : PlanD) (s : StD) (c : Int) (w : World) (hp : IsPlan w w.heap.size pv d) (hs : IsSt w w.heap.size sv s) (hok : StOk d s) (hc : 0 ≤ c ∧ c ≤ 1000001) :
    Calls Tryz.prog 57 #[pv, sv, .int .i64 c] w fun e w' => ∃ v, e = .returned v ∧ OR w' w.heap.size v (shutL d s c) ∧ Below w.heap.size w w' := by
  have HP := Lib.hid hp
  have HS := Lib.hid hs
  obtain ⟨⟨P0, P1, P2, P3, k0, k1, k2, k3, rfl, s0, s1, s2, s3⟩, b0, b1, b2, b3⟩ := hp
  obtain ⟨⟨A0, A1, A2, A3, c0, c1, c2, c3, rfl, t0, t1, t2, t3⟩, f0, f1, f2, f3⟩ := hs
  have S0 := Lib.hid s0
  have S1 := Lib.hid s1
  have S2 := Lib.hid s2
  have S3 := Lib.hid s3
  have R0 := Lib.hid t0
  have R1 := Lib.hid t1
  have R2 := Lib.hid t2
  have R3 := Lib.hid t3
  unfold maxLen at b0 b1 b2 b3 f0 f1 f2 f3
  clear s0 s1 s2 s3 t0 t1 t2 t3
  have T0 := Two.start w (planC P0 P1 P2 P3 d.n0 k0 d.n1 k1 d.n2 k2 d.n3 k3 d.l d.p d.t) (stC A0 A1 A2 A3 s.pods.length c0 s.mnts.length c1 s.devs.length c2 s.lks.length c3 s.ph s.co s.ck s.bo s.ba s.lb s.gd s.pr) 42 47
  have OK := Lib.hid hok
  have HNP := Lib.hid hok.np
  have HSZ := Lib.hid (size_ok hok.plan)
  have HCK := Lib.hid hc
  clear hok hc
  obtain ⟨ans, hans⟩ : ∃ ans, shutL d s c = ans := ⟨_, rfl⟩
  rw [hans]
  have HANS := Lib.hid hans
  clear hans
  obtain ⟨T1, O1⟩ := recs_start w (planC P0 P1 P2 P3 d.n0 k0 d.n1 k1 d.n2 k2 d.n3 k3 d.l d.p d.t) (stC A0 A1 A2 A3 s.pods.length c0 s.mnts.length c1 s.devs.length c2 s.lks.length c3 s.ph s.co s.ck s.bo s.ba s.lb s.gd s.pr) 42 47
  have hC := T1.A.C
  have hD := T1.O.C
  clear T0
  have HO := Lib.hid O1
  have HT := Lib.hid T1
  have HE : Hid (s.lks ≠ [] ↔ 0 < s.lks.length) := Lib.hid List.length_pos_iff.symm
  by_cases hwait : 0 < s.lks.length ∧ c < s.lb
  · obtain ⟨hl1, hl2⟩ := hwait
    have HW : Hid (s.lks ≠ [] ∧ c < s.lb) := Lib.hid ⟨HE.out.2 hl1, hl2⟩
    go_enter Tryz.func57, Tryz.ntmps57
    go_wp2
    all_goals (go_ret; exact ⟨_, rfl, by rw [← HANS.out, shutL, if_pos HW.out]; exact HO.out.base (by omega), HT.out.A.K⟩)
  · have HW : Hid (¬ (s.lks ≠ [] ∧ c < s.lb)) := Lib.hid fun h => hwait ⟨HE.out.1 h.1, h.2⟩
    cases h6 : (s.ba == 6)
    case true =>
      have H6 : Hid (s.ba = 6) := Lib.hid (by simpa using h6)
      by_cases hl : 0 < s.lks.length
      all_goals
        try (have hlb : ¬ c < s.lb := fun h => hwait ⟨hl, h⟩)
        clear hwait
        go_enter Tryz.func57, Tryz.ntmps57
        go_wp2_with (at_builtin; refine append_rec 1 4 0 _ _ rfl rfl rfl HO.out (by simp) rfl (by decide) HT.out.O.z ?_; rintro v' w' O' hb' -)
        all_goals (go_ret; exact ⟨_, rfl, by rw [← HANS.out, shutL, if_neg HW.out, if_pos H6.out]; exact O'.base (by omega), (HT.out.low hb' (Nat.le_refl _)).A.K⟩)
    case false =>
      have H6 : Hid (¬ s.ba = 6) := Lib.hid (by simpa using h6)
      have HLV := Lib.hid (fun h3 => (shutL_live OK.out.plan HW.out H6.out h3).symm.trans HANS.out)
      have HDD := Lib.hid (fun h3 => (shutL_dead OK.out.plan HW.out H6.out h3).symm.trans HANS.out)
      by_cases hl : 0 < s.lks.length
      all_goals
        try (have hlb : ¬ c < s.lb := fun h => hwait ⟨hl, h⟩)
        clear hwait
        go_enter Tryz.func57, Tryz.ntmps57
        go_wp2_with fail
        refine (specPods_any _ d _ _ ((HP.out.below HT.out.A.K (Nat.le_refl _)).more HT.out.A.K.size) (by have := HSZ.out; omega)).mono ?_
        rintro e w2 ⟨vL, rfl, OL, hb⟩
        have T2 := HT.out.step hb
        have O2 := HO.out.below hb
        have HPL := Lib.hid (fun (k : Nat) (hk : k < (podsL d s.ba).length) => podsL_in hk)
        have HPN : Hid ((podsL d s.ba).length ≤ 12) := Lib.hid (by have := podsL_le d s.ba; have := HSZ.out; omega)
        have hlen : (podsL d s.ba).length ≤ 2 ^ 63 - 1 := by have := HPN.out; omega
        have hba := OK.out.ba
        clear hb hC hD O1 T1 h6
        obtain ⟨AL, cL, rfl, -, SL⟩ := open_rowR OL
        clear SL
        generalize podsL d s.ba = L at OL HLV HDD HPL HPN hlen ⊢
        have OL := ownsRow_base OL HT.out.O.z
        go_wp2_with fail
        go_loopw [7, 8, 10] (fun v lv j wr => ∃ k : Nat, k ≤ L.length ∧ j = .int .i64 k ∧ lv = .bool ((L.take k).any (fun i => aliveB (podAt s i.toNat).1)) ∧ Hid (OR wr (w.heap.size + 2) v ((L.take k).filterMap (elemG d s c))) ∧
          Hid (wr.ownsRow (w.heap.size + 2) 2 1 (.slice AL L.length cL) L.length (L.map (Value.int .i64))) ∧ Two w wr (planC P0 P1 P2 P3 d.n0 k0 d.n1 k1 d.n2 k2 d.n3 k3 d.l d.p d.t) (stC A0 A1 A2 A3 s.pods.length c0 s.mnts.length c1 s.devs.length c2 s.lks.length c3 s.ph s.co s.ck s.bo s.ba s.lb s.gd s.pr)) (fun _ _ j _ => L.length - (intOf j).toNat)
        case atStart => exact ⟨0, Nat.zero_le _, rfl, by simp, Lib.hid (by simpa using O2), Lib.hid OL, T2⟩
        case round =>
          clear O2 OL T2 HT HO
          obtain ⟨k, hk, rfl, rfl, HO, HOL, T⟩ := hrel
          have hC := T.A.C
          have hD := T.O.C
          by_cases hlt : k < L.length
          · obtain ⟨i, hLi, hi⟩ := HPL.out k hlt
            have hlp : i < s.pods.length := by rw [HNP.out]; exact hi
            have HLI := Lib.hid hLi
            obtain ⟨bl, ol, rfl, hbl, q0⟩ := list_at HOL.out hLi
            clear hLi
            obtain ⟨b', off', rfl, hb', hc⟩ := (R0.out.below T.A.K (Nat.le_refl _)).cell hlp
            have p0 := (hc 0 (by decide)).trans (podCs_at s.pods (i := i) hlp).1
            have p1 := (hc 1 (by decide)).trans (podCs_at s.pods (i := i) hlp).2
            rw [Nat.add_zero] at p0
            clear hc
            have hpo := (podAt_ok OK.out hi).2
            have HEL : Hid (elemG d s c (i : Int) = if aliveB (podA s.pods i).1 then (if podStep (d.x0 (i * 4 + 3)) (d.x0 (i * 4 + 2)) (podA s.pods i) c = (podA s.pods i).1 then none else some ⟨2, i, podStep (d.x0 (i * 4 + 3)) (d.x0 (i * 4 + 2)) (podA s.pods i) c⟩) else none) := Lib.hid (by unfold elemG; rw [Int.toNat_natCast]; rfl)
            have HA1 : Hid ((L.take (k + 1)).any (fun i => aliveB (podAt s i.toNat).1) = ((L.take k).any (fun i => aliveB (podAt s i.toNat).1) || aliveB (podA s.pods i).1)) := Lib.hid (by
              rw [take_at HLI.out, List.any_append]; simp [podAt, podA])
            have HF1 : Hid ((L.take (k + 1)).filterMap (elemG d s c) = (L.take k).filterMap (elemG d s c) ++ (match elemG d s c (i : Int) with | some r => [r] | none => [])) := Lib.hid (by
              rw [take_at HLI.out, List.filterMap_append]
              cases he : elemG d s c (i : Int) <;> simp [he])
            have HLE : Hid (((L.take k).filterMap (elemG d s c)).length ≤ 12) := Lib.hid (by
              have := List.length_filterMap_le (elemG d s c) (L.take k)
              have h2 : (L.take k).length ≤ L.length := by rw [List.length_take]; omega
              have := HPN.out
              omega)
            generalize elemG d s c (i : Int) = el at HEL HF1
            rw [show podAt s i = podA s.pods i from rfl] at hpo
            generalize podA s.pods i = q at p0 p1 HEL HA1 hpo
            obtain ⟨x, y⟩ := q
            dsimp only at p0 p1 HEL HA1 hpo
            have hz := T.A.z
            have hz' := T.O.z
            have hbw : b' < wr.heap.size := Nat.lt_of_lt_of_le hb' T.A.K.size
            go_wp2_with fail
            go_cut [11] from 43 to 50 (fun s11 wx => ∃ g, s11 = .pointer (some ⟨g, 0, none⟩) ∧ wx.heap[g]? = some (.cells #[.int .i64 x, .int .i64 y] 109) ∧ Below wr.heap.size wr wx)
            case first =>
              go_region
              all_goals (go_wp2_with fail; go_meet)
              all_goals
                apply Exists.intro
                refine ⟨rfl, ?h3, ?hb⟩
                case h3 => repeat (first | exact alloc_here (by simp) | refine (alloc_there (by simp <;> omega)).trans ?_)
                case hb => repeat (first | exact Below.refl _ _ | refine Below.drew ?_ | refine Below.alloc ?_ (by simp <;> omega) _)
            case rest =>
              obtain ⟨g, rfl, hg, Kx⟩ := hcut
              have T2 := T.step Kx
              have HO2 := Lib.hid (HO.out.below Kx)
              have HOL2 := Lib.hid (ownsRow_below HOL.out Kx)
              have XB := two_row hg
              have hgz : g < wc.heap.size := (Array.getElem?_eq_some_iff.1 hg).1
              have r0 := (Kx.cell (p := ⟨bl, ol + k, none⟩) hbl).trans q0
              have hblc := Nat.lt_of_lt_of_le hbl Kx.size
              clear T HO HOL hC hD hz hz' q0 p0 p1 hbl hbw hb'
              have hC := T2.A.C
              have hD := T2.O.C
              go_wp2_with fail
              refine (alive_any _ _).mono ?_
              rintro e w5 ⟨rfl, rfl⟩
              cases ha : aliveB x
              · have HAL := Lib.hid ha
                clear ha
                go_wp2
                refine ⟨⟨k + 1, by omega, by go_num, by rw [HA1.out, HAL.out, Bool.or_false], Lib.hid (by rw [HF1.out, HEL.out, HAL.out]; simpa using HO2.out), HOL2, T2⟩, by simp [intOf]; omega⟩
              · have HAL := Lib.hid ha
                clear ha
                obtain ⟨bp, op, rfl, hbp, g0, g1, g2, g3⟩ := (S0.out.own T2.A).cell4 hi
                have hck := HCK.out
                go_wp2_with fail
                have Q0 : (∀ o, wc.cell? ⟨w.heap.size, o, none⟩ = (planC (some ⟨bp, op, none⟩) P1 P2 P3 d.n0 k0 d.n1 k1 d.n2 k2 d.n3 k3 d.l d.p d.t)[o]?) ∧ (∀ o, wc.cell? ⟨g, o, none⟩ = #[Value.int .i64 x, .int .i64 y][o]?) ∧ wc.cell? ⟨bl, ol + k, none⟩ = some (.int .i64 i) ∧ wc.cell? ⟨bp, op + i * 4, none⟩ = some (.int .i64 (d.x0 (i * 4))) ∧ wc.cell? ⟨bp, op + i * 4 + 1, none⟩ = some (.int .i64 (d.x0 (i * 4 + 1))) ∧ wc.cell? ⟨bp, op + i * 4 + 2, none⟩ = some (.int .i64 (d.x0 (i * 4 + 2))) ∧ wc.cell? ⟨bp, op + i * 4 + 3, none⟩ = some (.int .i64 (d.x0 (i * 4 + 3))) ∧ Below wc.heap.size wc wc := ⟨T2.A.C, XB, r0, g0, g1, g2, g3, Below.refl _ _⟩
                clear hC hD XB r0 g0 g1 g2 g3
                go_region_held3 (fun w' => (∀ o, w'.cell? ⟨w.heap.size, o, none⟩ = (planC (some ⟨bp, op, none⟩) P1 P2 P3 d.n0 k0 d.n1 k1 d.n2 k2 d.n3 k3 d.l d.p d.t)[o]?) ∧ (∀ o, w'.cell? ⟨g, o, none⟩ = #[Value.int .i64 x, .int .i64 y][o]?) ∧ w'.cell? ⟨bl, ol + k, none⟩ = some (.int .i64 i) ∧ w'.cell? ⟨bp, op + i * 4, none⟩ = some (.int .i64 (d.x0 (i * 4))) ∧ w'.cell? ⟨bp, op + i * 4 + 1, none⟩ = some (.int .i64 (d.x0 (i * 4 + 1))) ∧ w'.cell? ⟨bp, op + i * 4 + 2, none⟩ = some (.int .i64 (d.x0 (i * 4 + 2))) ∧ w'.cell? ⟨bp, op + i * 4 + 3, none⟩ = some (.int .i64 (d.x0 (i * 4 + 3))) ∧ Below wc.heap.size wc w')
                  (first | exact Q2 | exact Q0 | exact ⟨Q0.1, Q0.2.1, Q0.2.2.1, Q0.2.2.2.1, Q0.2.2.2.2.1, Q0.2.2.2.2.2.1, Q0.2.2.2.2.2.2.1, Q0.2.2.2.2.2.2.2.drew⟩)
                  (first
                    | (go_at_call 84
                       have K0 : Below wc.heap.size wc wc.drew := (Below.refl _ _).drew
                       refine (podStep_any _ _ _ _ _ _ _ _ hpo hck).mono ?_
                       rintro e w6 ⟨rfl, hb6⟩
                       have K1 : Below wc.heap.size wc w6 := K0.trans hb6
                       have Q2 := And.intro (T2.step K1).A.C (And.intro (fun o => (K1.cell (p := ⟨g, o, none⟩) hgz).trans (Q0.2.1 o)) (And.intro ((K1.cell (p := ⟨bl, ol + k, none⟩) hblc).trans Q0.2.2.1) (And.intro ((K1.cell (p := ⟨bp, op + i * 4, none⟩) hbp).trans Q0.2.2.2.1) (And.intro ((K1.cell (p := ⟨bp, op + i * 4 + 1, none⟩) hbp).trans Q0.2.2.2.2.1) (And.intro ((K1.cell (p := ⟨bp, op + i * 4 + 2, none⟩) hbp).trans Q0.2.2.2.2.2.1) (And.intro ((K1.cell (p := ⟨bp, op + i * 4 + 3, none⟩) hbp).trans Q0.2.2.2.2.2.2.1) K1))))))))
                have T3 := T2.step K1
                have HO3 := Lib.hid (HO2.out.below K1)
                have HOL3 := Lib.hid (ownsRow_below HOL2.out K1)
                have XB := Q2.2.1
                have r0 := Q2.2.2.1
                clear Q0 Q2 K0 K1 hb6 T2 HO2 HOL2
                rename_i hHeld
                clear hHeld
                have hC := T3.A.C
                have hD := T3.O.C
                generalize podStep (d.x0 (i * 4 + 3)) (d.x0 (i * 4 + 2)) (x, y) c = st at HEL ⊢
                cases hst : (st != x)
                · have HST : Hid (st = x) := Lib.hid (by simpa using hst)
                  go_wp2
                  refine ⟨⟨k + 1, by omega, by go_num, by rw [HA1.out, HAL.out, Bool.or_true], Lib.hid (by rw [HF1.out, HEL.out, HAL.out, if_pos rfl, if_pos HST.out]; simpa using HO3.out), HOL3, T3⟩, by simp [intOf]; omega⟩
                · have HST : Hid (¬ st = x) := Lib.hid (by simpa using hst)
                  go_wp2_with (at_builtin; refine append_rec 2 i st _ _ rfl rfl rfl HO3.out rfl rfl (by have := HLE.out; omega) T3.O.z ?_; rintro v' w' O' hb' hk')
                  refine ⟨⟨k + 1, by omega, by go_num, by rw [HA1.out, HAL.out, Bool.or_true], Lib.hid (by rw [HF1.out, HEL.out, HAL.out, if_pos rfl, if_neg HST.out]; exact O'), Lib.hid (ownsRow_keeps HOL3.out hk' fun r hr e => absurd (row_type HOL3.out HO3.out hr e) (by decide)), T3.low hb' (Nat.le_refl _)⟩, by simp [intOf]; omega⟩
          · obtain rfl : k = L.length := by omega
            rw [List.take_length] at HO ⊢
            cases hv : L.any (fun i => aliveB (podAt s i.toNat).1)
            · have HV := Lib.hid (HDD.out hv)
              clear hv
              go_wp2_with fail
              refine (specNext_any _ d _ _ ((HP.out.below T.A.K (Nat.le_refl _)).more T.A.K.size) (by have := HSZ.out; omega)).mono ?_
              rintro e w5 ⟨rfl, hb⟩
              have T5 := T.step hb
              have HO5 := Lib.hid (HO.out.below hb)
              have HLE : Hid ((L.filterMap (elemG d s c)).length ≤ 12) := Lib.hid (by
                have := List.length_filterMap_le (elemG d s c) L
                have := HPN.out
                omega)
              clear hb hC hD T
              have HB : Hid (nextB d s.ba = if nextL d s.ba < 0 then 6 else nextL d s.ba) := Lib.hid rfl
              generalize nextL d s.ba = nb at HB ⊢
              by_cases hnb : nb < 0
              · have HN := Lib.hid hnb
                go_wp2_with (at_builtin; refine append_rec 9 6 0 _ _ rfl rfl rfl HO5.out rfl rfl (by have := HLE.out; omega) T5.O.z ?_; rintro v' w' O' hb' -)
                all_goals (go_ret; exact ⟨_, rfl, by rw [← HV.out, HB.out, if_pos (by have := HN.out; omega)]; exact O'.base (by omega), (T5.low hb' (Nat.le_refl _)).A.K⟩)
              · have HN := Lib.hid hnb
                go_wp2_with (at_builtin; refine append_rec 9 nb 0 _ _ rfl rfl rfl HO5.out rfl rfl (by have := HLE.out; omega) T5.O.z ?_; rintro v' w' O' hb' -)
                all_goals (go_ret; exact ⟨_, rfl, by rw [← HV.out, HB.out, if_neg (by have := HN.out; omega)]; exact O'.base (by omega), (T5.low hb' (Nat.le_refl _)).A.K⟩)
            · have HV := Lib.hid (HLV.out hv)
              clear hv
              go_wp2
              all_goals (go_ret; exact ⟨_, rfl, by rw [← HV.out]; exact HO.out.base (by omega), T.A.K⟩)
end Go.Proofs.YtdphpjnecjofeaaGreat
/- Vc -/
set_option linter.unusedVariables false
namespace Go.Proofs.YtdphpjnecjofeaaGreat
open Go.RowKit

theorem aliveB_no {x : Int} (h0 : ¬ x = 0) (h1 : ¬ x = 1) (h2 : ¬ x = 2) (h3 : ¬ x = 3) : aliveB x = false := by
  rw [Bool.eq_false_iff]
  intro h
  rw [aliveB, inB_true] at h
  omega
set_option maxHeartbeats 1000000 in
theorem implAlive_any (x : Int) (w : World) : Calls Tryz.prog 105 #[.int .i64 x] w fun e w' => e = .returned (.bool (aliveB x)) ∧ w = w' := by
  by_cases h0 : x = 0
  · subst h0
    go_enter Tryz.func105, Tryz.ntmps105
    go_wp2
    all_goals (go_ret; exact ⟨ret_bool (by decide), rfl⟩)
  · by_cases h1 : x = 1
    · subst h1
      go_enter Tryz.func105, Tryz.ntmps105
      go_wp2
      all_goals (go_ret; exact ⟨ret_bool (by decide), rfl⟩)
    · by_cases h2 : x = 2
      · subst h2
        go_enter Tryz.func105, Tryz.ntmps105
        go_wp2
        all_goals (go_ret; exact ⟨ret_bool (by decide), rfl⟩)
      · by_cases h3 : x = 3
        · subst h3
          go_enter Tryz.func105, Tryz.ntmps105
          go_wp2
          all_goals (go_ret; exact ⟨ret_bool (by decide), rfl⟩)
        · go_enter Tryz.func105, Tryz.ntmps105
          go_wp2
          all_goals (go_ret; exact ⟨ret_bool (by rw [aliveB_no h0 h1 h2 h3]), rfl⟩)

end Go.Proofs.YtdphpjnecjofeaaGreat
/- Va -/
set_option linter.unusedVariables false
namespace Go.Proofs.YtdphpjnecjofeaaGreat
open Go.RowKit

section
variable (A0 A1 A2 A3 : Option Addr) (n0 c0 n1 c1 n2 c2 n3 c3 : Nat) (l p t : Int) (E0 E1 E2 E3 : Option Addr) (m0 k0 m1 k1 m2 k2 m3 k3 : Nat) (ph : Int) (co : Bool) (ck bo ba lb gd pr : Int)
set_option maxHeartbeats 1000000 in
theorem countsRight_any (w : World) (b0 : n0 ≤ maxLen) (b2 : n2 ≤ maxLen) (b3 : n3 ≤ maxLen) (d0 : m0 ≤ maxLen) (d1 : m1 ≤ maxLen) (d2 : m2 ≤ maxLen) :
    Calls Tryz.prog 97 #[.agg (besC A0 A1 A2 A3 n0 c0 n1 c1 n2 c2 n3 c3 l p t E0 E1 E2 E3 m0 k0 m1 k1 m2 k2 m3 k3 ph co ck bo ba lb gd pr)] w fun e w' =>
      e = .returned (.bool (decide (m0 = n0) && decide (m1 = n2) && decide (m2 = n3))) ∧ Below w.heap.size w w' := by
  unfold maxLen at b0 b2 b3 d0 d1 d2
  by_cases e0 : m0 = n0
  · by_cases e1 : m1 = n2
    · by_cases e2 : m2 = n3
      · subst e0 e1 e2
        go_enter Tryz.func97, Tryz.ntmps97
        go_wp2
        all_goals (go_ret; refine ⟨ret_bool (by simp), (Below.refl _ _).alloc (Nat.le_refl _) _⟩)
      · subst e0 e1
        have e2' : ¬ (m2 : Int) = n3 := by omega
        go_enter Tryz.func97, Tryz.ntmps97
        go_wp2
        all_goals (go_ret; refine ⟨ret_bool (by simp [e2, e2']), (Below.refl _ _).alloc (Nat.le_refl _) _⟩)
    · subst e0
      have e1' : ¬ (m1 : Int) = n2 := by omega
      go_enter Tryz.func97, Tryz.ntmps97
      go_wp2
      all_goals (go_ret; refine ⟨ret_bool (by simp [e1]), (Below.refl _ _).alloc (Nat.le_refl _) _⟩)
  · have e0' : ¬ (m0 : Int) = n0 := by omega
    go_enter Tryz.func97, Tryz.ntmps97
    go_wp2
    all_goals (go_ret; refine ⟨ret_bool (by simp [e0]), (Below.refl _ _).alloc (Nat.le_refl _) _⟩)

def cntB (ph ck bo ba lb : Int) : Bool := inB ph 0 8 && inB ba 0 6 && inB ck 0 1000000 && inB bo 0 1000000 && inB lb 0 1000000
set_option maxHeartbeats 1000000 in
theorem numbersRight_any (w : World) :
    Calls Tryz.prog 98 #[cntV ph ck bo ba lb gd pr] w fun e w' => e = .returned (.bool (cntB ph ck bo ba lb)) ∧ Below w.heap.size w w' := by
  go_enter Tryz.func98, Tryz.ntmps98
  go_wp2_with (go_at_call 114; refine (within_any _ _ _ _).mono ?_; rintro e w' ⟨rfl, rfl⟩)
  all_goals (go_ret; refine ⟨ret_bool ?_, (Below.refl _ _).alloc (Nat.le_refl _) _⟩)
  all_goals simp [cntB, *]

def prbB (gd pr tr : Int) : Bool := inB gd 0 pr && decide (pr ≤ tr)
set_option maxHeartbeats 1000000 in
theorem probesRight_any (tr : Int) (w : World) :
    Calls Tryz.prog 99 #[cntV ph ck bo ba lb gd pr, .int .i64 tr] w fun e w' => e = .returned (.bool (prbB gd pr tr)) ∧ Below w.heap.size w w' := by
  unfold prbB
  by_cases h2 : pr ≤ tr
  · go_enter Tryz.func99, Tryz.ntmps99
    go_wp2_with (go_at_call 114; refine (within_any _ _ _ _).mono ?_; rintro e w' ⟨rfl, rfl⟩)
    all_goals (go_ret; refine ⟨ret_bool ?_, (Below.refl _ _).alloc (Nat.le_refl _) _⟩)
    all_goals simp [*]
  · have h3 : tr < pr := by omega
    go_enter Tryz.func99, Tryz.ntmps99
    go_wp2_with (go_at_call 114; refine (within_any _ _ _ _).mono ?_; rintro e w' ⟨rfl, rfl⟩)
    all_goals (go_ret; refine ⟨ret_bool ?_, (Below.refl _ _).alloc (Nat.le_refl _) _⟩)
    all_goals simp [*]

set_option maxHeartbeats 1000000 in
theorem besPod_any (L : List (Int × Int)) (i : Nat) (w : World) (hl : L.length = m0) (s0 : SlV w w.heap.size 2 E0 m0 (podCs L)) (hi : i < m0) (b0 : m0 ≤ maxLen) :
    Calls Tryz.prog 100 #[.agg (besC A0 A1 A2 A3 n0 c0 n1 c1 n2 c2 n3 c3 l p t E0 E1 E2 E3 m0 k0 m1 k1 m2 k2 m3 k3 ph co ck bo ba lb gd pr), .int .i64 i] w fun e w' =>
      e = .returned (.bool (podOkB (podA L i))) ∧ Below w.heap.size w w' := by
  unfold maxLen at b0
  obtain ⟨b, off, rfl, hb, hc⟩ := s0.cell hi
  have hp := podCs_at L (i := i) (by omega)
  have q0 := (hc 0 (by decide)).trans hp.1
  have q1 := (hc 1 (by decide)).trans hp.2
  rw [Nat.add_zero] at q0
  clear hc hp s0 hl
  generalize podA L i = r at *
  obtain ⟨x, y⟩ := r
  dsimp only at q0 q1
  go_enter Tryz.func100, Tryz.ntmps100
  go_wp2_with (go_at_call 114; refine (within_any _ _ _ _).mono ?_; rintro e w' ⟨rfl, rfl⟩)
  all_goals (go_ret; refine ⟨ret_bool ?_, ((Below.refl _ _).alloc (Nat.le_refl _) _).alloc (by simp) _⟩)
  all_goals simp [podOkB, *]

set_option maxHeartbeats 1000000 in
theorem besMount_any (L : List (Bool × Int)) (i : Nat) (w : World) (hl : L.length = m1) (s0 : SlV w w.heap.size 2 E1 m1 (mntCs L)) (hi : i < m1) (b0 : m1 ≤ maxLen) :
    Calls Tryz.prog 101 #[.agg (besC A0 A1 A2 A3 n0 c0 n1 c1 n2 c2 n3 c3 l p t E0 E1 E2 E3 m0 k0 m1 k1 m2 k2 m3 k3 ph co ck bo ba lb gd pr), .int .i64 i] w fun e w' =>
      e = .returned (.bool (mntOkB (mntA L i))) ∧ Below w.heap.size w w' := by
  unfold maxLen at b0
  obtain ⟨b, off, rfl, hb, hc⟩ := s0.cell hi
  have hp := mntCs_at L (i := i) (by omega)
  have q0 := (hc 0 (by decide)).trans hp.1
  have q1 := (hc 1 (by decide)).trans hp.2
  rw [Nat.add_zero] at q0
  clear hc hp s0 hl
  generalize mntA L i = r at *
  obtain ⟨x, y⟩ := r
  dsimp only at q0 q1
  cases x
  · go_enter Tryz.func101, Tryz.ntmps101
    go_wp2_with (go_at_call 114; refine (within_any _ _ _ _).mono ?_; rintro e w' ⟨rfl, rfl⟩)
    all_goals (go_ret; refine ⟨ret_bool ?_, ((Below.refl _ _).alloc (Nat.le_refl _) _).alloc (by simp) _⟩)
    all_goals simp [mntOkB, *]
  · go_enter Tryz.func101, Tryz.ntmps101
    go_wp2_with (go_at_call 114; refine (within_any _ _ _ _).mono ?_; rintro e w' ⟨rfl, rfl⟩)
    all_goals (go_ret; refine ⟨ret_bool ?_, ((Below.refl _ _).alloc (Nat.le_refl _) _).alloc (by simp) _⟩)
    all_goals simp [mntOkB, *]

set_option maxHeartbeats 1000000 in
theorem besLock_any (L : List Int) (i : Nat) (w : World) (hl : L.length = m3) (s0 : SlV w w.heap.size 1 E3 m3 (lkCs L)) (hi : i < m3) (b0 : m3 ≤ maxLen) :
    Calls Tryz.prog 102 #[.agg (besC A0 A1 A2 A3 n0 c0 n1 c1 n2 c2 n3 c3 l p t E0 E1 E2 E3 m0 k0 m1 k1 m2 k2 m3 k3 ph co ck bo ba lb gd pr), .int .i64 i] w fun e w' =>
      e = .returned (.bool (lkOkB L i)) ∧ Below w.heap.size w w' := by
  unfold maxLen at b0
  obtain ⟨b, off, rfl, hb, hc⟩ := s0.cell hi
  have q0 := hc 0 (by decide)
  rw [Nat.add_zero, Nat.mul_one, Nat.add_zero, lkCs_at L (i := i) (by omega)] at q0
  have q1 : w.cell? ⟨b, off + (i - 1), none⟩ = some (.int .i64 (lkA L (i - 1))) := by
    obtain ⟨b', off', e, -, hc'⟩ := s0.cell (i := i - 1) (by omega)
    injection e with e
    injection e with e1 e2 _
    subst e1 e2
    have := hc' 0 (by decide)
    rwa [Nat.add_zero, Nat.mul_one, Nat.add_zero, lkCs_at L (i := i - 1) (by omega)] at this
  have HOK : Hid (lkOkB L i = (inB (lkA L i) 0 7 && (decide (i = 0) || decide (lkA L (i - 1) < lkA L i)))) := Lib.hid rfl
  clear hc s0 hl
  generalize hx : lkA L i = x at *
  generalize hy : lkA L (i - 1) = y at *
  clear hx hy
  by_cases hi0 : i = 0
  · subst hi0
    rw [Nat.add_zero] at q0
    go_enter Tryz.func102, Tryz.ntmps102
    go_wp2_with (go_at_call 115; refine (isIndex_any _ _ _).mono ?_; rintro e w' ⟨rfl, rfl⟩)
    all_goals (go_ret; refine ⟨ret_bool ?_, (Below.refl _ _).alloc (Nat.le_refl _) _⟩)
    all_goals (rw [HOK.out]; simp [*])
  · have hpos : (0 : Int) < (i : Int) := by omega
    have hposN : 0 < i := by omega
    have hi1 : ((i : Int) - 1) = ((i - 1 : Nat) : Int) := by omega
    by_cases hxy : y < x
    · go_enter Tryz.func102, Tryz.ntmps102
      go_wp2_with (go_at_call 115; refine (isIndex_any _ _ _).mono ?_; rintro e w' ⟨rfl, rfl⟩)
      all_goals (go_ret; refine ⟨ret_bool ?_, (Below.refl _ _).alloc (Nat.le_refl _) _⟩)
      all_goals (rw [HOK.out]; simp [*])
    · have hle : x ≤ y := by omega
      go_enter Tryz.func102, Tryz.ntmps102
      go_wp2_with (go_at_call 115; refine (isIndex_any _ _ _).mono ?_; rintro e w' ⟨rfl, rfl⟩)
      all_goals (go_ret; refine ⟨ret_bool ?_, (Below.refl _ _).alloc (Nat.le_refl _) _⟩)
      all_goals (rw [HOK.out]; simp [*])
end
end Go.Proofs.YtdphpjnecjofeaaGreat
