/-
  SnapOf: the model's and the program's (chapter 14).
-/
import Derived.Test.YtdkmhaghnfhajaaGreatDoorGf
import Derived.Test.YtdkmhaghnfhajaaGreatDoorMZxLqB
import Derived.Deep.RegionHeld3
set_option linter.unusedVariables false
namespace Go.Proofs.YtdkmhaghnfhajaaGreatDoor
open Go.RowKit

/-- Chapter 14: the records that make a right state; nothing of another. -/
def snapD (d : PlanD) (s : StD) : List RecD := if stOkB d s then snapL s else []
def RecsL (w : World) (l : List RecD) (e : Ending) (w' : World) : Prop := ∃ v, e = .returned v ∧ OR w' w.heap.size v l ∧ Below w.heap.size w w'
theorem snap_small {d : PlanD} {s : StD} (h : StOk d s) : s.pods.length ≤ 12 ∧ s.mnts.length ≤ 12 ∧ s.devs.length ≤ 12 ∧ s.lks.length ≤ 12 := by
  have hp := h.plan
  have h1 := h.np
  have h2 := h.nm
  have h3 := h.nd
  simp only [planOkB, sizesB, Bool.and_eq_true, decide_eq_true_eq] at hp
  have h4 : s.lks.length ≤ 8 := by
    have hr := h.rise
    have hl := h.lks
    have := rise_len (a := 0) hr hl (by omega)
    omega
  omega
theorem snap_len (d : PlanD) (s : StD) : (snapD d s).length ≤ 1000 := by
  unfold snapD
  split
  · rename_i h
    obtain ⟨e0, e1, e2, e3⟩ := snap_small (stOkB_iff.1 h)
    have h1 := snapA_le s
    have h2 := snapB_le s
    have h3 := upTo_le (n := s.pods.length) (snapP_le s)
    have h4 := upTo_le (n := s.mnts.length) (snapM_le s)
    have h5 := upTo_le (n := s.devs.length) (snapV_le s)
    unfold snapL
    simp only [List.length_append, List.length_cons, List.length_nil, List.length_map]
    omega
  · simp
set_option maxRecDepth 100000 in
set_option maxHeartbeats 8000000 in
theorem specSnapOf_any (pv sv : Value) (d : PlanD) (s : StD) (w : World) (hp : IsPlan w w.heap.size pv d) (hs : IsSt w w.heap.size sv s) : Calls Tryz.prog 14 #[pv, sv] w (RecsL w (snapD d s)) := by
  have HP := Lib.hid hp
  have HS := Lib.hid hs
  obtain ⟨⟨P0, P1, P2, P3, k0, k1, k2, k3, rfl, -, -, -, -⟩, -, -, -, -⟩ := hp
  obtain ⟨⟨A0, A1, A2, A3, c0, c1, c2, c3, rfl, t0, -, -, -⟩, -, -, -, -⟩ := hs
  have R0 := Lib.hid t0
  clear t0
  have T := Two.start w (planC P0 P1 P2 P3 d.n0 k0 d.n1 k1 d.n2 k2 d.n3 k3 d.l d.p d.t) (stC A0 A1 A2 A3 s.pods.length c0 s.mnts.length c1 s.devs.length c2 s.lks.length c3 s.ph s.co s.ck s.bo s.ba s.lb s.gd s.pr) 29 34
  go_enter Tryz.func14, Tryz.ntmps14
  go_wp2_with fail
  refine (specStateOk_any _ _ d s _ ((HP.out.below T.A.K (Nat.le_refl _)).more T.A.K.size) ((HS.out.below T.A.K (Nat.le_refl _)).more T.A.K.size)).mono ?_
  rintro e w2 ⟨rfl, hb⟩
  replace T := T.step hb
  clear hb
  have hC := T.A.C
  have hD := T.O.C
  cases hok : stOkB d s
  · have HE : Hid (snapD d s = []) := Lib.hid (by unfold snapD; rw [hok]; rfl)
    clear hok
    have O1 : OR (w2.alloc (.cells #[] 52)) w.heap.size (.slice (some ⟨w2.heap.size, 0, none⟩) 0 0) [] := OR.empty T.A.K.size
    have K1 := T.A.K.alloc T.A.K.size (.cells #[] 52)
    go_wp2
    all_goals (go_ret; exact ⟨_, rfl, by rw [HE.out]; exact O1, K1⟩)
  · have HE : Hid (snapD d s = snapL s) := Lib.hid (by unfold snapD; rw [hok]; rfl)
    have HSZ := Lib.hid (snap_small (stOkB_iff.1 hok))
    clear hok
    go_wp2_with fail
    refine (l14Snap_any _ s w2 ((HS.out.below T.A.K (Nat.le_refl _)).more T.A.K.size) HSZ.out).mono ?_
    rintro e w3 ⟨v, rfl, O1, hb⟩
    have K1 := T.A.K.trans (hb.mono T.A.K.size)
    go_wp2
    all_goals (go_ret; exact ⟨_, rfl, by rw [HE.out]; exact O1.base T.A.K.size, K1⟩)

set_option maxRecDepth 100000 in
set_option maxHeartbeats 8000000 in
theorem implSnapOf_any (pv sv : Value) (d : PlanD) (s : StD) (w : World) (hp : IsPlan w w.heap.size pv d) (hs : IsSt w w.heap.size sv s) : Calls Tryz.prog 11 #[pv, sv] w (RecsL w (snapD d s)) := by
  have HP := Lib.hid hp
  have HS := Lib.hid hs
  obtain ⟨⟨P0, P1, P2, P3, k0, k1, k2, k3, rfl, -, -, -, -⟩, -, -, -, -⟩ := hp
  obtain ⟨⟨A0, A1, A2, A3, c0, c1, c2, c3, rfl, t0, -, -, -⟩, -, -, -, -⟩ := hs
  have R0 := Lib.hid t0
  clear t0
  obtain ⟨T, O0⟩ := recs_start w (planC P0 P1 P2 P3 d.n0 k0 d.n1 k1 d.n2 k2 d.n3 k3 d.l d.p d.t) (stC A0 A1 A2 A3 s.pods.length c0 s.mnts.length c1 s.devs.length c2 s.lks.length c3 s.ph s.co s.ck s.bo s.ba s.lb s.gd s.pr) 29 34
  go_enter Tryz.func11, Tryz.ntmps11
  go_upto_region 2 with fail
  generalize (((w.alloc (.cells (planC P0 P1 P2 P3 d.n0 k0 d.n1 k1 d.n2 k2 d.n3 k3 d.l d.p d.t) 29)).alloc (.cells (stC A0 A1 A2 A3 s.pods.length c0 s.mnts.length c1 s.devs.length c2 s.lks.length c3 s.ph s.co s.ck s.bo s.ba s.lb s.gd s.pr) 34)).alloc (.cells #[] 52)) = w1 at T O0 ⊢
  have HO0 := Lib.hid O0
  clear O0
  have hC := T.A.C
  have hD := T.O.C
  go_wp2_with fail
  refine (implStateOk_any _ _ d s _ ((HP.out.below T.A.K (Nat.le_refl _)).more T.A.K.size) ((HS.out.below T.A.K (Nat.le_refl _)).more T.A.K.size)).mono ?_
  rintro e w2 ⟨rfl, hb⟩
  replace T := T.step hb
  replace HO0 := Lib.hid (HO0.out.below hb)
  clear hb hC hD
  have hC := T.A.C
  have hD := T.O.C
  cases hok : stOkB d s
  · have HE : Hid (snapD d s = []) := Lib.hid (by unfold snapD; rw [hok]; rfl)
    clear hok
    go_wp2
    all_goals (go_ret; exact ⟨_, rfl, by rw [HE.out]; exact HO0.out.base (by omega), T.A.K⟩)
  · have HE : Hid (snapD d s = snapL s) := Lib.hid (by unfold snapD; rw [hok]; rfl)
    have HSZ := Lib.hid (snap_small (stOkB_iff.1 hok))
    have HMN : Hid (∀ q ∈ s.mnts, q.1 = false → q.2 = 0) := Lib.hid fun q hq => ((stOkB_iff.1 hok).mnts q hq).2
    have h2B : w.heap.size + 2 ≤ w2.heap.size := by have := T.O.z; omega
    clear hok
    go_upto_if 14 with fail
    go_cut [5] from 14 to 20 (fun v3 wx => Hid (OR wx (w.heap.size + 2) v3 (snapA s)) ∧ Two w wx (planC P0 P1 P2 P3 d.n0 k0 d.n1 k1 d.n2 k2 d.n3 k3 d.l d.p d.t) (stC A0 A1 A2 A3 s.pods.length c0 s.mnts.length c1 s.devs.length c2 s.lks.length c3 s.ph s.co s.ck s.bo s.ba s.lb s.gd s.pr) ∧ w.heap.size + 2 ≤ wx.heap.size)
    case first =>
      have hO := HO0.out.len
      by_cases hp : s.ph = 0
      · have hb0 : (s.ph != 0) = false := by simp [hp]
        have HPH : Hid (snapA s = []) := Lib.hid (if_pos hp)
        clear hp
        go_wp2_with fail
        go_meet
        exact ⟨Lib.hid (by rw [HPH.out]; exact HO0.out), T, h2B⟩
      · have hb0 : (s.ph != 0) = true := by simp [hp]
        have HPH : Hid (snapA s = [⟨1, s.ph, 0⟩]) := Lib.hid (if_neg hp)
        clear hp
        go_wp2_with (at_builtin; refine append_rec 1 s.ph 0 _ _ rfl rfl rfl HO0.out rfl rfl (by simp) h2B ?_; rintro v' w' O' hb' -)
        go_meet
        exact ⟨Lib.hid (by rw [HPH.out]; simpa using O'), T.low hb' (by omega), Nat.le_trans h2B hb'.size⟩
    case rest =>
    obtain ⟨HO, X, hz⟩ := hcut
    clear T HO0 hC hD
    have T := X
    clear X
    have hC := T.A.C
    have hD := T.O.C
    go_upto_if 23 with fail
    go_cut [5] from 23 to 29 (fun v3 wx => Hid (OR wx (w.heap.size + 2) v3 (snapA s ++ snapB s)) ∧ Two w wx (planC P0 P1 P2 P3 d.n0 k0 d.n1 k1 d.n2 k2 d.n3 k3 d.l d.p d.t) (stC A0 A1 A2 A3 s.pods.length c0 s.mnts.length c1 s.devs.length c2 s.lks.length c3 s.ph s.co s.ck s.bo s.ba s.lb s.gd s.pr) ∧ w.heap.size + 2 ≤ wx.heap.size)
    case first =>
      have hle := snapA_le s
      by_cases hp : s.bo = 0
      · have hb0 : (s.bo != 0) = false := by simp [hp]
        have HPH : Hid (snapB s = []) := Lib.hid (if_pos hp)
        clear hp
        go_wp2_with fail
        go_meet
        exact ⟨Lib.hid (by rw [HPH.out, List.append_nil]; exact HO.out), T, hz⟩
      · have hb0 : (s.bo != 0) = true := by simp [hp]
        have HPH : Hid (snapB s = [⟨10, s.bo, 0⟩]) := Lib.hid (if_neg hp)
        clear hp
        go_wp2_with (at_builtin; refine append_rec 10 s.bo 0 _ _ rfl rfl rfl HO.out rfl rfl (by omega) hz ?_; rintro v' w' O' hb' -)
        go_meet
        exact ⟨Lib.hid (by rw [HPH.out]; exact O'), T.low hb' (by omega), Nat.le_trans hz hb'.size⟩
    case rest =>
    obtain ⟨HO2_, X2_, hz2⟩ := hcut
    clear T HO hC hD hz
    have T := X2_
    have HO := HO2_
    clear X2_ HO2_
    have HL : Hid ((snapA s ++ snapB s).length ≤ 2) := Lib.hid (by have := snapA_le s; have := snapB_le s; rw [List.length_append]; omega)
    obtain ⟨ans, hans⟩ : ∃ ans, snapL s = ans := ⟨_, rfl⟩
    have HA0 : Hid (ans = (snapA s ++ snapB s) ++ (upTo s.pods.length (snapP s) ++ ([⟨8, s.ck, 0⟩] ++ (upTo s.mnts.length (snapM s) ++ (upTo s.devs.length (snapV s) ++ (s.lks.map (fun x => (⟨6, x, 0⟩ : RecD)) ++ [⟨9, s.ba, 0⟩, ⟨11, s.lb, 0⟩, ⟨12, s.gd, s.pr⟩])))))) := Lib.hid hans.symm
    rw [hans] at HE
    clear hans
    generalize hR : snapA s ++ snapB s = q0_ at HA0 HL HO
    clear hR
    have hC := T.A.C
    have hD := T.O.C
    -- the pods
    go_upto_region 9 with (first
      | (go_at_call 47
         refine (podsTold_any s A0 c0 _ ((R0.out.below T.A.K (Nat.le_refl _)).more T.A.K.size) HSZ.out.1).mono ?_
         rintro e w5 ⟨v5, rfl, O5, hb5⟩
         obtain ⟨AL, CL, rfl, hr5, S5⟩ := O5.slv
         have T5 := T.step hb5
         have HO5 := Lib.hid (HO.out.below hb5)
         have h5B : w.heap.size + 2 ≤ w5.heap.size := by have := hb5.size; omega)
      | (at_builtin
         refine append_recs (l2 := upTo s.pods.length (snapP s)) _ _ rfl rfl rfl HO5.out rfl hr5 S5 (by have := HL.out; have := upTo_le (n := s.pods.length) (snapP_le s); have := HSZ.out.1; omega) h5B ?_
         rintro v6 w6 O6 hb6 -))
    have T6 := T5.low hb6 (by omega)
    have h6B : w.heap.size + 2 ≤ w6.heap.size := Nat.le_trans h5B hb6.size
    have HL1 : Hid ((q0_ ++ upTo s.pods.length (snapP s)).length ≤ 26) := Lib.hid (by have := HL.out; have := upTo_le (n := s.pods.length) (snapP_le s); have := HSZ.out.1; rw [List.length_append]; omega)
    have HA1 : Hid (ans = (q0_ ++ upTo s.pods.length (snapP s)) ++ ([⟨8, s.ck, 0⟩] ++ (upTo s.mnts.length (snapM s) ++ (upTo s.devs.length (snapV s) ++ (s.lks.map (fun x => (⟨6, x, 0⟩ : RecD)) ++ [⟨9, s.ba, 0⟩, ⟨11, s.lb, 0⟩, ⟨12, s.gd, s.pr⟩]))))) := Lib.hid (by rw [HA0.out, List.append_assoc])
    generalize hR : q0_ ++ upTo s.pods.length (snapP s) = q1_ at HA1 HL1 O6
    clear hR HO HO5 T T5 hC hD S5 O5 hb5 hb6 h5B hz2 HA0 HL
    have hC := T6.A.C
    have hD := T6.O.C
    go_upto_region 10 with (at_builtin; refine append_rec 8 s.ck 0 _ _ rfl rfl rfl O6 rfl rfl (by have := HL1.out; omega) h6B ?_; rintro v7 w7 O7 hb7 -)
    have T7 := T6.low hb7 (by omega)
    have h7B : w.heap.size + 2 ≤ w7.heap.size := Nat.le_trans h6B hb7.size
    have HL2 : Hid ((q1_ ++ [(⟨8, s.ck, 0⟩ : RecD)]).length ≤ 27) := Lib.hid (by have := HL1.out; simp; omega)
    have HA2 : Hid (ans = (q1_ ++ [(⟨8, s.ck, 0⟩ : RecD)]) ++ (upTo s.mnts.length (snapM s) ++ (upTo s.devs.length (snapV s) ++ (s.lks.map (fun x => (⟨6, x, 0⟩ : RecD)) ++ [⟨9, s.ba, 0⟩, ⟨11, s.lb, 0⟩, ⟨12, s.gd, s.pr⟩])))) := Lib.hid (by rw [HA1.out, List.append_assoc])
    generalize hR : q1_ ++ [(⟨8, s.ck, 0⟩ : RecD)] = q2_ at HA2 HL2 O7
    clear hR O6 T6 hC hD hb7 HA1 HL1 h6B
    have hC := T7.A.C
    have hD := T7.O.C
    obtain ⟨lh, hlh⟩ : ∃ lh, upTo s.mnts.length (snapM s) ++ (upTo s.devs.length (snapV s) ++ s.lks.map (fun x => (⟨6, x, 0⟩ : RecD))) = lh := ⟨_, rfl⟩
    have HLE := Lib.hid hlh
    have HLH : Hid (lh.length ≤ 48) := Lib.hid (by
      rw [← hlh]
      have h4 := upTo_le (n := s.mnts.length) (snapM_le s)
      have h5 := upTo_le (n := s.devs.length) (snapV_le s)
      have := HSZ.out
      simp only [List.length_append, List.length_map]
      omega)
    clear hlh
    go_upto_region 11 with (first
      | (go_at_call 48
         have hcall := holdsTold_any _ s _ ((HS.out.below T7.A.K (Nat.le_refl _)).more T7.A.K.size) ⟨HSZ.out.2.1, HSZ.out.2.2.1, HSZ.out.2.2.2⟩ HMN.out
         rw [HLE.out] at hcall
         refine hcall.mono ?_
         clear hcall
         rintro e w8 ⟨v8, rfl, O8, hb8⟩
         obtain ⟨AH, CH, rfl, hr8, S8⟩ := O8.slv
         have T8 := T7.step hb8
         have HO8 := Lib.hid (O7.below hb8)
         have h8B : w.heap.size + 2 ≤ w8.heap.size := Nat.le_trans h7B hb8.size)
      | (at_builtin
         refine append_recs (l2 := lh) _ _ rfl rfl rfl HO8.out rfl hr8 S8 (by have := HL2.out; have := HLH.out; omega) h8B ?_
         rintro v9 w9 O9 hb9 -))
    have T9 := T8.low hb9 (by omega)
    have h9B : w.heap.size + 2 ≤ w9.heap.size := Nat.le_trans h8B hb9.size
    have HL3 : Hid ((q2_ ++ lh).length ≤ 75) := Lib.hid (by have := HL2.out; have := HLH.out; rw [List.length_append]; omega)
    have HA3 : Hid (ans = (q2_ ++ lh) ++ [⟨9, s.ba, 0⟩, ⟨11, s.lb, 0⟩, ⟨12, s.gd, s.pr⟩]) := Lib.hid (by rw [HA2.out, ← HLE.out]; simp only [List.append_assoc])
    generalize hR : q2_ ++ lh = q3_ at HA3 HL3 O9
    clear hR O7 HO8 T7 T8 hC hD S8 O8 hb8 hb9 h8B h7B HA2 HL2 HLH
    have hC := T9.A.C
    have hD := T9.O.C
    go_wp2_with (at_builtin; refine append_news [⟨9, s.ba, 0⟩, ⟨11, s.lb, 0⟩, ⟨12, s.gd, s.pr⟩] _ _ rfl rfl rfl O9 rfl rfl rfl rfl (by have := HL3.out; omega) h9B ?_; rintro v' w' O' hb' -)
    all_goals (go_ret; exact ⟨_, rfl, by rw [HE.out, HA3.out]; exact O'.base (by omega), (T9.low hb' (by omega)).A.K⟩)

end Go.Proofs.YtdkmhaghnfhajaaGreatDoor
