/-
  The program's Recovered.
-/
import Derived.Test.YtkefbmbjkijilaaGreatDoorRf
import Derived.Test.YtkefbmbjkijilaaGreatDoorRg
import Derived.Test.YtkefbmbjkijilaaGreatDoorRk
import Derived.Test.YtkefbmbjkijilaaGreatDoorRj
import Derived.Test.YtkefbmbjkijilaaGreatDoorMZ19
set_option linter.unusedVariables false
namespace Go.Proofs.YtkefbmbjkijilaaGreatDoor
open Go.RowKit

theorem apart_later {w W : World} {B e k n e' k' n' : Nat} {u v : Value} {x : Nat → Int} {xs : List Value} (h : w.ownsRow B e' k' v n' xs) (h' : OI W w.heap.size e k u n x) : Apart u v := fun r h1 h2 => by
  obtain ⟨ys, ho, -⟩ := h'
  have := (World.ownsRow.lt ho r h1).1
  have := (World.ownsRow.lt h r h2).2
  omega
theorem newS_fitsP {d : PlanD} (h : PlFits d) : StFits (newS d) 1048576 := by
  obtain ⟨f0, f1, f2, f3⟩ := h
  unfold newS
  split
  · exact ⟨by simpa using f0, by simpa using f2, by simpa using f3, by simp [zeroS]⟩
  · exact ⟨by simp [zeroS], by simp [zeroS], by simp [zeroS], by simp [zeroS]⟩
set_option maxRecDepth 100000 in
set_option maxHeartbeats 16000000 in
theorem implRecovered_any (pv bv : Value) (d : PlanD) (b : List Nat) (w : World) (hp : IsPlR w w.heap.size pv d) (hb : Bt w w.heap.size bv b) (hr : Real bv) (hl : b.length ≤ 1048576) (N : Names w) :
    Calls Tryz.prog 21 #[pv, bv] w (RecA w (recovD d b)) := by
  have HP := Lib.hid hp
  have HB := Lib.hid hb
  have HRB := Lib.hid hr
  have HI : Hid ((Tryz.prog.info? 46).map (·.size) = some 12) := Lib.hid (by kernel_rfl)
  have HJ : Hid ((Tryz.prog.info? 48).map (·.size) = some 20) := Lib.hid (by kernel_rfl)
  obtain ⟨⟨A0, A1, A2, A3, c0, c1, c2, c3, rfl, -, -⟩, hfp⟩ := hp
  obtain ⟨⟨Ab, cb, rfl, hcb, -⟩, -, -⟩ := hb
  have hle := framesN_le b
  have hsm := framesN_flat b
  obtain ⟨ls, n, hf⟩ : ∃ ls n, framesN b = (ls, n) := ⟨_, _, rfl⟩
  rw [hf] at hle hsm
  dsimp only at hle hsm
  have HF := Lib.hid hf
  obtain ⟨ans, hans⟩ : ∃ ans, recovD d b = ans := ⟨_, rfl⟩
  rw [hans]
  have HANS := Lib.hid hans
  clear hans hf hr
  have XP := (Own.box w (planC A0 A1 A2 A3 d.n0 c0 d.n1 c1 d.n2 c2 d.n3 c3 d.l d.p d.t) 42).alloc (.cells (agC (.slice none 0 0) (.slice none 0 0) (.slice none 0 0) (.slice none 0 0) 0 0 0 0 false 0 0 0 0 (.slice none 0 0) (.slice none 0 0) (.slice none 0 0) (.slice none 0 0) 0 0 (.slice none 0 0)) 48)
  have HZ := heap_alloc_new (w.alloc (.cells (planC A0 A1 A2 A3 d.n0 c0 d.n1 c1 d.n2 c2 d.n3 c3 d.l d.p d.t) 42)) (.cells (agC (.slice none 0 0) (.slice none 0 0) (.slice none 0 0) (.slice none 0 0) 0 0 0 0 false 0 0 0 0 (.slice none 0 0) (.slice none 0 0) (.slice none 0 0) (.slice none 0 0) 0 0 (.slice none 0 0)) 48)
  simp only [heap_size_alloc_] at HZ
  have K := XP.K
  go_enter Tryz.func21, Tryz.ntmps21
  have hC := XP.C
  go_wp2_with fail
  generalize (w.alloc (.cells (planC A0 A1 A2 A3 d.n0 c0 d.n1 c1 d.n2 c2 d.n3 c3 d.l d.p d.t) 42)).alloc (.cells (agC (.slice none 0 0) (.slice none 0 0) (.slice none 0 0) (.slice none 0 0) 0 0 0 0 false 0 0 0 0 (.slice none 0 0) (.slice none 0 0) (.slice none 0 0) (.slice none 0 0) 0 0 (.slice none 0 0)) 48) = w0 at XP HZ K hC ⊢
  have HN := Lib.hid N
  clear N
  refine (readFrames_any (.slice Ab b.length cb) b w0 (HN.out.go K) ((HB.out.below K (Nat.le_refl _)).more K.size) (by omega)).mono ?_
  rintro e w1 ⟨vl, rfl, OL, hb⟩
  rw [HF.out] at OL ⊢
  dsimp only at OL ⊢
  replace OL := OL.base K.size
  replace XP := XP.step hb
  replace HZ := (hb.block _ (Array.getElem?_eq_some_iff.1 HZ).1).trans HZ
  replace K := K.trans (hb.mono K.size)
  clear hb hC
  by_cases hn : n ≤ 1200
  case neg =>
    have HW : Hid (ans = ((zeroP, zeroS, []), false)) := Lib.hid (by rw [← HANS.out]; exact recov_far (by rw [HF.out]; exact hn))
    have e0 : decide ((1200 : Int) < (n : Int)) = true := by simp; omega
    have e1 : decide ((n : Int) > 1200) = true := e0
    clear hn
    go_wp2_with (
      (with_reducible refine store_agent (x := 4) (y := 17) (g := w.heap.size + 1) (cs := agC (.slice none 0 0) (.slice none 0 0) (.slice none 0 0) (.slice none 0 0) 0 0 0 0 false 0 0 0 0 (.slice none 0 0) (.slice none 0 0) (.slice none 0 0) (.slice none 0 0) 0 0 (.slice none 0 0)) ?_ ?_ HZ ?_ ?_ ?_ ?_)
      · rfl
      · rfl
      · exact HJ.out
      · rfl
      · simp [Value.oneCell'])
    rw [HW.out]
    exact bodyPost_ret (v := .tuple #[.agg (agC (.slice none 0 0) (.slice none 0 0) (.slice none 0 0) (.slice none 0 0) 0 0 0 0 false 0 0 0 0 (.slice none 0 0) (.slice none 0 0) (.slice none 0 0) (.slice none 0 0) 0 0 (.slice none 0 0)), .bool false]) (results_two_row Tryz.results21 _ _ _ _ _ _ _ _ rfl rfl (setRow_heap _ _ _ _ _ _ HZ) Tryz.underlying48 rfl HJ.out) rfl ⟨_, rfl, OwnAg.zero _ _, belowRow_ K (by omega) _⟩
  case pos =>
    have i1 : (n : Int) ≤ 1200 := by omega
    have HNF := Lib.hid (newS_fitsP hfp)
    have HTOT : Hid (ls.flatten.length ≤ 1000000) := Lib.hid (by omega)
    obtain ⟨x, xb, hxb⟩ : ∃ x xb, appliedL d (newS d) ls.flatten = (x, xb) := by
      generalize appliedL d (newS d) ls.flatten = q
      exact ⟨q.1, q.2, rfl⟩
    have HXB := Lib.hid hxb
    have HNO : Hid (xb = false → ans = ((zeroP, zeroS, []), false)) := Lib.hid (fun h => by rw [← HANS.out]; exact recov_no (x := x) (by rw [HF.out, ← h]; exact hxb))
    have HYES : Hid (xb = true → ans = ((d, x, b.take n), true)) := Lib.hid (fun h => by
      have := (recov_yes (d := d) (b := b) (x := x) (by rw [HF.out]; exact hn) (by rw [HF.out, ← h]; exact hxb)).1
      rw [HF.out] at this
      rw [← HANS.out]
      exact this)
    clear hxb hsm hfp
    go_upto_region 4 with fail
    go_cut [8, 9] from 18 to 27 (fun s8 s9 wx => ∃ (g : Nat) (D0 D1 D2 D3 : Option Addr) (m0 m1 m2 m3 : Nat), s8 = .pointer (some ⟨g, 0, none⟩) ∧ s9 = .bool xb ∧ Below w.heap.size w wx ∧ Own w wx w.heap.size (planC A0 A1 A2 A3 d.n0 c0 d.n1 c1 d.n2 c2 d.n3 c3 d.l d.p d.t) ∧ wx.heap[w.heap.size + 1]? = some (.cells (agC (.slice none 0 0) (.slice none 0 0) (.slice none 0 0) (.slice none 0 0) 0 0 0 0 false 0 0 0 0 (.slice none 0 0) (.slice none 0 0) (.slice none 0 0) (.slice none 0 0) 0 0 (.slice none 0 0)) 48) ∧ w.heap.size + 1 < g ∧ wx.heap[g]? = some (.cells (stC D0 D1 D2 D3 x.pods.length m0 x.mnts.length m1 x.devs.length m2 x.lks.length m3 x.ph x.co x.ck x.bo x.ba x.lb x.gd x.pr) 46) ∧ OwnSt wx w.heap.size (.agg (stC D0 D1 D2 D3 x.pods.length m0 x.mnts.length m1 x.devs.length m2 x.lks.length m3 x.ph x.co x.ck x.bo x.ba x.lb x.gd x.pr)) x)
    case first =>
      refine wp_region_noPanic ?_
      refine wp_region_held_drew (S := (fun W => ∀ o, W.cell? ⟨w.heap.size, o, none⟩ = (planC A0 A1 A2 A3 d.n0 c0 d.n1 c1 d.n2 c2 d.n3 c3 d.l d.p d.t)[o]?)) (by kernel_rfl) ((XP.step (Below.refl _ _).drew).C) (fun _ => ?_)
      rw [← heap_drew w1] at HZ
      replace OL := OL.below (Below.refl _ _).drew
      replace K := K.drew
      replace XP := XP.drew
      generalize w1.drew = v0 at K XP HZ OL ⊢
      refine wpAnyH_take (i := 0) (v := ?_) rfl (by kernel_rfl) (by kernel_rfl) (by kernel_rfl) (fun _ _ _ h => h) (Or.inl ⟨by rfl, ?_⟩) XP.C ?_
      rotate_left 1
      · intro w hSw
        skip
        go_simp
        try with_reducible rfl
      change wpAnyH _ _ _ _ _ _ _ (Act.put _ (some 19) _) _
      simp only [Act.put, List.setIfInBounds_toArray, List.set_cons_zero, List.set_cons_succ]
      refine wpAnyH_take (i := 1) (v := ?_) rfl (by kernel_rfl) (by kernel_rfl) (by kernel_rfl) (fun _ _ _ h => h) (Or.inl ⟨by rfl, ?_⟩) XP.C ?_
      rotate_left 1
      · intro w hSw
        skip
        go_simp
        try with_reducible rfl
      change wpAnyH _ _ _ _ _ _ _ (Act.put _ (some 20) _) _
      simp only [Act.put, List.setIfInBounds_toArray, List.set_cons_zero, List.set_cons_succ]
      refine wpAnyH_take (i := 3) (v := ?_) rfl (by kernel_rfl) (by kernel_rfl) (by kernel_rfl) (fun _ _ _ h => h) (Or.inl ⟨by rfl, ?_⟩) XP.C ?_
      rotate_left 1
      · intro w hSw
        skip
        go_simp
        try with_reducible rfl
      change wpAnyH _ _ _ _ _ _ _ (Act.put _ (some 22) _) _
      simp only [Act.put, List.setIfInBounds_toArray, List.set_cons_zero, List.set_cons_succ]
      refine wpAnyH_ready (rs := [2, 9]) (by kernel_rfl) (by simp) ?_
      refine AllReadyH.cons rfl (fun K' hK => ?_) ?_
      · skip
        go_simp
        go_at_call 57
        refine (implNewState_any _ d v0 ((HP.out.is.below K (Nat.le_refl _)).more K.size)).mono ?_
        rintro e v1 ⟨vs, rfl, ON, hb⟩
        replace ON := ON.base K.size
        try replace H8 := (hb.block _ (Array.getElem?_eq_some_iff.1 H8).1).trans H8
        replace OL := OL.below hb
        replace K := K.trans (hb.mono K.size)
        replace XP := XP.step hb
        replace HZ := (hb.block _ (Array.getElem?_eq_some_iff.1 HZ).1).trans HZ
        clear hb
        go_wp2_with fail
        refine hK.out _ _ XP.C (fun _ => ?_)
        clear hK K'
        try (change wpAnyH _ _ _ _ _ _ _ (Act.put _ (some 21) _) _; simp only [Act.put, List.setIfInBounds_toArray, List.set_cons_zero, List.set_cons_succ])
        refine wpAnyH_ready (rs := [4, 9]) (by kernel_rfl) (by simp) ?_
        refine AllReadyH.cons rfl (fun K' hK => ?_) ?_
        · skip
          go_simp
          go_at_call 58
          refine (concat_any vl w.heap.size ls v1 OL HTOT.out).mono ?_
          rintro e v2 ⟨vr, rfl, OR1, hb⟩
          try replace H8 := (hb.block _ (Array.getElem?_eq_some_iff.1 H8).1).trans H8
          replace ON := ON.below hb
          replace K := K.trans (hb.mono K.size)
          replace XP := XP.step hb
          replace HZ := (hb.block _ (Array.getElem?_eq_some_iff.1 HZ).1).trans HZ
          clear hb
          go_wp2_with fail
          refine hK.out _ _ XP.C (fun _ => ?_)
          clear hK K'
          try (change wpAnyH _ _ _ _ _ _ _ (Act.put _ (some 23) _) _; simp only [Act.put, List.setIfInBounds_toArray, List.set_cons_zero, List.set_cons_succ])
          refine wpAnyH_ready (rs := [5, 9]) (by kernel_rfl) (by simp) ?_
          refine AllReadyH.cons rfl (fun K' hK => ?_) ?_
          · skip
            go_simp
            go_at_call 56
            have hall := implAll_any _ _ _ d (newS d) ls.flatten v2 ((HP.out.is.below K (Nat.le_refl _)).more K.size) (ON.isR HNF.out) (OR1.rt) (HN.out.go K)
            rw [HXB.out] at hall
            refine hall.mono ?_
            clear hall
            rintro e v3 ⟨vx, rfl, OT, hb⟩
            replace OT := OT.base K.size
            obtain ⟨y0, y1, y2, y3, rfl, -⟩ := OT.it
            obtain ⟨⟨D0, m0, rfl⟩, ⟨D1, m1, rfl⟩, ⟨D2, m2, rfl⟩, ⟨D3, m3, rfl⟩⟩ := OT.shapes
            try replace H8 := (hb.block _ (Array.getElem?_eq_some_iff.1 H8).1).trans H8
            replace K := K.trans (hb.mono K.size)
            replace XP := XP.step hb
            replace HZ := (hb.block _ (Array.getElem?_eq_some_iff.1 HZ).1).trans HZ
            clear hb ON OR1
            go_wp2_with fail
            refine hK.out _ _ XP.C (fun _ => ?_)
            clear hK K'
            try (change wpAnyH _ _ _ _ _ _ _ (Act.put _ (some 24) _) _; simp only [Act.put, List.setIfInBounds_toArray, List.set_cons_zero, List.set_cons_succ])
            refine wpAnyH_take (i := 6) (v := ?_) rfl (by kernel_rfl) (by kernel_rfl) (by kernel_rfl) (fun _ _ _ h => h) (Or.inl ⟨by rfl, ?_⟩) XP.C ?_
            rotate_left 1
            · intro w hSw
              skip
              go_simp
              try with_reducible rfl
            change wpAnyH _ _ _ _ _ _ _ (Act.put _ (some 18) _) _
            simp only [Act.put, List.setIfInBounds_toArray, List.set_cons_zero, List.set_cons_succ]
            refine wpAnyH_take (i := 7) (v := ?_) rfl (by kernel_rfl) (by kernel_rfl) (by kernel_rfl) (fun _ _ _ h => h) (Or.inl ⟨by rfl, ?_⟩) XP.C ?_
            rotate_left 1
            · intro w hSw
              skip
              go_simp
              try with_reducible rfl
            change wpAnyH _ _ _ _ _ _ _ (Act.put _ (some 25) _) _
            simp only [Act.put, List.setIfInBounds_toArray, List.set_cons_zero, List.set_cons_succ]
            refine wpAnyH_take (i := 8) (v := ?_) rfl (by kernel_rfl) (by kernel_rfl) (by kernel_rfl) (fun _ _ _ h => h) (Or.inl ⟨by rfl, ?_⟩) XP.C ?_
            rotate_left 1
            · intro w hSw
              skip
              go_simp
              try with_reducible rfl
            change wpAnyH _ _ _ _ _ _ _ (Act.put _ (some 26) _) _
            simp only [Act.put, List.setIfInBounds_toArray, List.set_cons_zero, List.set_cons_succ]
            refine wpAnyH_ready (rs := [9]) (by kernel_rfl) (by simp) ?_
            refine AllReadyH.cons rfl (fun K' hK => ?_) AllReadyH.nil
            go_simp
            have H8 := heap_alloc_new v3 (.cells (stC none none none none 0 0 0 0 0 0 0 0 0 false 0 0 0 0 0 0) 46)
            have h8g : w.heap.size + 1 < v3.heap.size := (Array.getElem?_eq_some_iff.1 HZ).1
            have hb := (Below.refl v3.heap.size v3).alloc (Nat.le_refl _) (.cells (stC none none none none 0 0 0 0 0 0 0 0 0 false 0 0 0 0 0 0) 46)
            try replace OL := OL.below hb
            try replace ON := ON.below hb
            try replace OR1 := OR1.below hb
            try replace OT := OT.below hb
            replace K := K.trans (hb.mono K.size)
            replace XP := XP.step hb
            replace HZ := (hb.block _ (Array.getElem?_eq_some_iff.1 HZ).1).trans HZ
            clear hb
            obtain ⟨v4, hwv⟩ : ∃ W, v3.alloc (.cells (stC none none none none 0 0 0 0 0 0 0 0 0 false 0 0 0 0 0 0) 46) = W := ⟨_, rfl⟩
            rw [hwv] at H8 K XP HZ ⊢
            try rw [hwv] at OL
            try rw [hwv] at ON
            try rw [hwv] at OR1
            try rw [hwv] at OT
            clear hwv
            obtain ⟨R8, hR8⟩ : ∃ R, v3.heap.size = R := ⟨_, rfl⟩
            rw [hR8] at H8 h8g ⊢
            clear hR8
            refine hK.out _ _ XP.C (fun _ => ?_)
            clear hK K'
            try (change wpAnyH _ _ _ _ _ _ _ (Act.put _ (some 8) _) _; simp only [Act.put, List.setIfInBounds_toArray, List.set_cons_zero, List.set_cons_succ])
            refine wpAnyH_ready (rs := [10]) (by kernel_rfl) (by simp) ?_
            refine AllReadyH.cons rfl (fun K' hK => ?_) AllReadyH.nil
            rw [if_pos (by rfl)]
            refine wp_store_row 46 (.tmp 8) (.tmp 25) rfl R8 (stC D0 D1 D2 D3 x.pods.length m0 x.mnts.length m1 x.devs.length m2 x.lks.length m3 x.ph x.co x.ck x.bo x.ba x.lb x.gd x.pr) rfl rfl 46 _ H8 HI.out rfl (by simp [Value.oneCell']) ?_
            have kk := keepsRow_ v4 R8 (stC D0 D1 D2 D3 x.pods.length m0 x.mnts.length m1 x.devs.length m2 x.lks.length m3 x.ph x.co x.ck x.bo x.ba x.lb x.gd x.pr)
            replace XP := XP.keeps kk (by rintro b rfl; omega) (by show ¬ w.heap.size = R8; omega)
            replace HZ := (setRow_other _ R8 (w.heap.size + 1) (stC D0 D1 D2 D3 x.pods.length m0 x.mnts.length m1 x.devs.length m2 x.lks.length m3 x.ph x.co x.ck x.bo x.ba x.lb x.gd x.pr) (by omega)).trans HZ
            replace K := belowRow_ K (B := R8) (by omega) (stC D0 D1 D2 D3 x.pods.length m0 x.mnts.length m1 x.devs.length m2 x.lks.length m3 x.ph x.co x.ck x.bo x.ba x.lb x.gd x.pr)
            replace OT := OT.keepsT kk H8 (by decide)
            replace H8 := setRow_heap _ _ _ (stC D0 D1 D2 D3 x.pods.length m0 x.mnts.length m1 x.devs.length m2 x.lks.length m3 x.ph x.co x.ck x.bo x.ba x.lb x.gd x.pr) _ _ H8
            clear kk
            generalize v4.setRow R8 (stC D0 D1 D2 D3 x.pods.length m0 x.mnts.length m1 x.devs.length m2 x.lks.length m3 x.ph x.co x.ck x.bo x.ba x.lb x.gd x.pr) = v5 at K XP HZ H8 OT ⊢
            refine hK.out _ _ XP.C (fun _ => ?_)
            clear hK K'
            try (change wpAnyH _ _ _ _ _ _ _ (Act.put _ none _) _; simp only [Act.put])
            refine wpAnyH_ready (rs := [11]) (by kernel_rfl) (by simp) ?_
            refine AllReadyH.cons rfl (fun K' hK => ?_) AllReadyH.nil
            go_simp
            refine hK.out _ _ XP.C (fun _ => ?_)
            clear hK K'
            try (change wpAnyH _ _ _ _ _ _ _ (Act.put _ (some 9) _) _; simp only [Act.put, List.setIfInBounds_toArray, List.set_cons_zero, List.set_cons_succ])
            refine wpAnyH_done (by kernel_rfl) ?_ _
            refine NoPanic.normal ?_
            go_wp2_with fail
            go_meet
            exact ⟨R8, D0, D1, D2, D3, m0, m1, m2, m3, rfl, rfl, K, XP, HZ, h8g, H8, OT⟩
          refine AllReadyH.cons rfl (fun K' hK => ?_) AllReadyH.nil
          go_simp
          have H8 := heap_alloc_new v2 (.cells (stC none none none none 0 0 0 0 0 0 0 0 0 false 0 0 0 0 0 0) 46)
          have h8g : w.heap.size + 1 < v2.heap.size := (Array.getElem?_eq_some_iff.1 HZ).1
          have hb := (Below.refl v2.heap.size v2).alloc (Nat.le_refl _) (.cells (stC none none none none 0 0 0 0 0 0 0 0 0 false 0 0 0 0 0 0) 46)
          try replace OL := OL.below hb
          try replace ON := ON.below hb
          try replace OR1 := OR1.below hb
          try replace OT := OT.below hb
          replace K := K.trans (hb.mono K.size)
          replace XP := XP.step hb
          replace HZ := (hb.block _ (Array.getElem?_eq_some_iff.1 HZ).1).trans HZ
          clear hb
          obtain ⟨v3, hwv⟩ : ∃ W, v2.alloc (.cells (stC none none none none 0 0 0 0 0 0 0 0 0 false 0 0 0 0 0 0) 46) = W := ⟨_, rfl⟩
          rw [hwv] at H8 K XP HZ ⊢
          try rw [hwv] at OL
          try rw [hwv] at ON
          try rw [hwv] at OR1
          try rw [hwv] at OT
          clear hwv
          obtain ⟨R8, hR8⟩ : ∃ R, v2.heap.size = R := ⟨_, rfl⟩
          rw [hR8] at H8 h8g ⊢
          clear hR8
          refine hK.out _ _ XP.C (fun _ => ?_)
          clear hK K'
          try (change wpAnyH _ _ _ _ _ _ _ (Act.put _ (some 8) _) _; simp only [Act.put, List.setIfInBounds_toArray, List.set_cons_zero, List.set_cons_succ])
          refine wpAnyH_ready (rs := [5]) (by kernel_rfl) (by simp) ?_
          refine AllReadyH.cons rfl (fun K' hK => ?_) AllReadyH.nil
          go_simp
          go_at_call 56
          have hall := implAll_any _ _ _ d (newS d) ls.flatten v3 ((HP.out.is.below K (Nat.le_refl _)).more K.size) (ON.isR HNF.out) (OR1.rt) (HN.out.go K)
          rw [HXB.out] at hall
          refine hall.mono ?_
          clear hall
          rintro e v4 ⟨vx, rfl, OT, hb⟩
          replace OT := OT.base K.size
          obtain ⟨y0, y1, y2, y3, rfl, -⟩ := OT.it
          obtain ⟨⟨D0, m0, rfl⟩, ⟨D1, m1, rfl⟩, ⟨D2, m2, rfl⟩, ⟨D3, m3, rfl⟩⟩ := OT.shapes
          try replace H8 := (hb.block _ (Array.getElem?_eq_some_iff.1 H8).1).trans H8
          replace K := K.trans (hb.mono K.size)
          replace XP := XP.step hb
          replace HZ := (hb.block _ (Array.getElem?_eq_some_iff.1 HZ).1).trans HZ
          clear hb ON OR1
          go_wp2_with fail
          refine hK.out _ _ XP.C (fun _ => ?_)
          clear hK K'
          try (change wpAnyH _ _ _ _ _ _ _ (Act.put _ (some 24) _) _; simp only [Act.put, List.setIfInBounds_toArray, List.set_cons_zero, List.set_cons_succ])
          refine wpAnyH_take (i := 6) (v := ?_) rfl (by kernel_rfl) (by kernel_rfl) (by kernel_rfl) (fun _ _ _ h => h) (Or.inl ⟨by rfl, ?_⟩) XP.C ?_
          rotate_left 1
          · intro w hSw
            skip
            go_simp
            try with_reducible rfl
          change wpAnyH _ _ _ _ _ _ _ (Act.put _ (some 18) _) _
          simp only [Act.put, List.setIfInBounds_toArray, List.set_cons_zero, List.set_cons_succ]
          refine wpAnyH_take (i := 7) (v := ?_) rfl (by kernel_rfl) (by kernel_rfl) (by kernel_rfl) (fun _ _ _ h => h) (Or.inl ⟨by rfl, ?_⟩) XP.C ?_
          rotate_left 1
          · intro w hSw
            skip
            go_simp
            try with_reducible rfl
          change wpAnyH _ _ _ _ _ _ _ (Act.put _ (some 25) _) _
          simp only [Act.put, List.setIfInBounds_toArray, List.set_cons_zero, List.set_cons_succ]
          refine wpAnyH_take (i := 8) (v := ?_) rfl (by kernel_rfl) (by kernel_rfl) (by kernel_rfl) (fun _ _ _ h => h) (Or.inl ⟨by rfl, ?_⟩) XP.C ?_
          rotate_left 1
          · intro w hSw
            skip
            go_simp
            try with_reducible rfl
          change wpAnyH _ _ _ _ _ _ _ (Act.put _ (some 26) _) _
          simp only [Act.put, List.setIfInBounds_toArray, List.set_cons_zero, List.set_cons_succ]
          refine wpAnyH_ready (rs := [10]) (by kernel_rfl) (by simp) ?_
          refine AllReadyH.cons rfl (fun K' hK => ?_) AllReadyH.nil
          rw [if_pos (by rfl)]
          refine wp_store_row 46 (.tmp 8) (.tmp 25) rfl R8 (stC D0 D1 D2 D3 x.pods.length m0 x.mnts.length m1 x.devs.length m2 x.lks.length m3 x.ph x.co x.ck x.bo x.ba x.lb x.gd x.pr) rfl rfl 46 _ H8 HI.out rfl (by simp [Value.oneCell']) ?_
          have kk := keepsRow_ v4 R8 (stC D0 D1 D2 D3 x.pods.length m0 x.mnts.length m1 x.devs.length m2 x.lks.length m3 x.ph x.co x.ck x.bo x.ba x.lb x.gd x.pr)
          replace XP := XP.keeps kk (by rintro b rfl; omega) (by show ¬ w.heap.size = R8; omega)
          replace HZ := (setRow_other _ R8 (w.heap.size + 1) (stC D0 D1 D2 D3 x.pods.length m0 x.mnts.length m1 x.devs.length m2 x.lks.length m3 x.ph x.co x.ck x.bo x.ba x.lb x.gd x.pr) (by omega)).trans HZ
          replace K := belowRow_ K (B := R8) (by omega) (stC D0 D1 D2 D3 x.pods.length m0 x.mnts.length m1 x.devs.length m2 x.lks.length m3 x.ph x.co x.ck x.bo x.ba x.lb x.gd x.pr)
          replace OT := OT.keepsT kk H8 (by decide)
          replace H8 := setRow_heap _ _ _ (stC D0 D1 D2 D3 x.pods.length m0 x.mnts.length m1 x.devs.length m2 x.lks.length m3 x.ph x.co x.ck x.bo x.ba x.lb x.gd x.pr) _ _ H8
          clear kk
          generalize v4.setRow R8 (stC D0 D1 D2 D3 x.pods.length m0 x.mnts.length m1 x.devs.length m2 x.lks.length m3 x.ph x.co x.ck x.bo x.ba x.lb x.gd x.pr) = v5 at K XP HZ H8 OT ⊢
          refine hK.out _ _ XP.C (fun _ => ?_)
          clear hK K'
          try (change wpAnyH _ _ _ _ _ _ _ (Act.put _ none _) _; simp only [Act.put])
          refine wpAnyH_ready (rs := [11]) (by kernel_rfl) (by simp) ?_
          refine AllReadyH.cons rfl (fun K' hK => ?_) AllReadyH.nil
          go_simp
          refine hK.out _ _ XP.C (fun _ => ?_)
          clear hK K'
          try (change wpAnyH _ _ _ _ _ _ _ (Act.put _ (some 9) _) _; simp only [Act.put, List.setIfInBounds_toArray, List.set_cons_zero, List.set_cons_succ])
          refine wpAnyH_done (by kernel_rfl) ?_ _
          refine NoPanic.normal ?_
          go_wp2_with fail
          go_meet
          exact ⟨R8, D0, D1, D2, D3, m0, m1, m2, m3, rfl, rfl, K, XP, HZ, h8g, H8, OT⟩
        refine AllReadyH.cons rfl (fun K' hK => ?_) AllReadyH.nil
        go_simp
        have H8 := heap_alloc_new v1 (.cells (stC none none none none 0 0 0 0 0 0 0 0 0 false 0 0 0 0 0 0) 46)
        have h8g : w.heap.size + 1 < v1.heap.size := (Array.getElem?_eq_some_iff.1 HZ).1
        have hb := (Below.refl v1.heap.size v1).alloc (Nat.le_refl _) (.cells (stC none none none none 0 0 0 0 0 0 0 0 0 false 0 0 0 0 0 0) 46)
        try replace OL := OL.below hb
        try replace ON := ON.below hb
        try replace OR1 := OR1.below hb
        try replace OT := OT.below hb
        replace K := K.trans (hb.mono K.size)
        replace XP := XP.step hb
        replace HZ := (hb.block _ (Array.getElem?_eq_some_iff.1 HZ).1).trans HZ
        clear hb
        obtain ⟨v2, hwv⟩ : ∃ W, v1.alloc (.cells (stC none none none none 0 0 0 0 0 0 0 0 0 false 0 0 0 0 0 0) 46) = W := ⟨_, rfl⟩
        rw [hwv] at H8 K XP HZ ⊢
        try rw [hwv] at OL
        try rw [hwv] at ON
        try rw [hwv] at OR1
        try rw [hwv] at OT
        clear hwv
        obtain ⟨R8, hR8⟩ : ∃ R, v1.heap.size = R := ⟨_, rfl⟩
        rw [hR8] at H8 h8g ⊢
        clear hR8
        refine hK.out _ _ XP.C (fun _ => ?_)
        clear hK K'
        try (change wpAnyH _ _ _ _ _ _ _ (Act.put _ (some 8) _) _; simp only [Act.put, List.setIfInBounds_toArray, List.set_cons_zero, List.set_cons_succ])
        refine wpAnyH_ready (rs := [4]) (by kernel_rfl) (by simp) ?_
        refine AllReadyH.cons rfl (fun K' hK => ?_) AllReadyH.nil
        go_simp
        go_at_call 58
        refine (concat_any vl w.heap.size ls v2 OL HTOT.out).mono ?_
        rintro e v3 ⟨vr, rfl, OR1, hb⟩
        try replace H8 := (hb.block _ (Array.getElem?_eq_some_iff.1 H8).1).trans H8
        replace ON := ON.below hb
        replace K := K.trans (hb.mono K.size)
        replace XP := XP.step hb
        replace HZ := (hb.block _ (Array.getElem?_eq_some_iff.1 HZ).1).trans HZ
        clear hb
        go_wp2_with fail
        refine hK.out _ _ XP.C (fun _ => ?_)
        clear hK K'
        try (change wpAnyH _ _ _ _ _ _ _ (Act.put _ (some 23) _) _; simp only [Act.put, List.setIfInBounds_toArray, List.set_cons_zero, List.set_cons_succ])
        refine wpAnyH_ready (rs := [5]) (by kernel_rfl) (by simp) ?_
        refine AllReadyH.cons rfl (fun K' hK => ?_) AllReadyH.nil
        go_simp
        go_at_call 56
        have hall := implAll_any _ _ _ d (newS d) ls.flatten v3 ((HP.out.is.below K (Nat.le_refl _)).more K.size) (ON.isR HNF.out) (OR1.rt) (HN.out.go K)
        rw [HXB.out] at hall
        refine hall.mono ?_
        clear hall
        rintro e v4 ⟨vx, rfl, OT, hb⟩
        replace OT := OT.base K.size
        obtain ⟨y0, y1, y2, y3, rfl, -⟩ := OT.it
        obtain ⟨⟨D0, m0, rfl⟩, ⟨D1, m1, rfl⟩, ⟨D2, m2, rfl⟩, ⟨D3, m3, rfl⟩⟩ := OT.shapes
        try replace H8 := (hb.block _ (Array.getElem?_eq_some_iff.1 H8).1).trans H8
        replace K := K.trans (hb.mono K.size)
        replace XP := XP.step hb
        replace HZ := (hb.block _ (Array.getElem?_eq_some_iff.1 HZ).1).trans HZ
        clear hb ON OR1
        go_wp2_with fail
        refine hK.out _ _ XP.C (fun _ => ?_)
        clear hK K'
        try (change wpAnyH _ _ _ _ _ _ _ (Act.put _ (some 24) _) _; simp only [Act.put, List.setIfInBounds_toArray, List.set_cons_zero, List.set_cons_succ])
        refine wpAnyH_take (i := 6) (v := ?_) rfl (by kernel_rfl) (by kernel_rfl) (by kernel_rfl) (fun _ _ _ h => h) (Or.inl ⟨by rfl, ?_⟩) XP.C ?_
        rotate_left 1
        · intro w hSw
          skip
          go_simp
          try with_reducible rfl
        change wpAnyH _ _ _ _ _ _ _ (Act.put _ (some 18) _) _
        simp only [Act.put, List.setIfInBounds_toArray, List.set_cons_zero, List.set_cons_succ]
        refine wpAnyH_take (i := 7) (v := ?_) rfl (by kernel_rfl) (by kernel_rfl) (by kernel_rfl) (fun _ _ _ h => h) (Or.inl ⟨by rfl, ?_⟩) XP.C ?_
        rotate_left 1
        · intro w hSw
          skip
          go_simp
          try with_reducible rfl
        change wpAnyH _ _ _ _ _ _ _ (Act.put _ (some 25) _) _
        simp only [Act.put, List.setIfInBounds_toArray, List.set_cons_zero, List.set_cons_succ]
        refine wpAnyH_take (i := 8) (v := ?_) rfl (by kernel_rfl) (by kernel_rfl) (by kernel_rfl) (fun _ _ _ h => h) (Or.inl ⟨by rfl, ?_⟩) XP.C ?_
        rotate_left 1
        · intro w hSw
          skip
          go_simp
          try with_reducible rfl
        change wpAnyH _ _ _ _ _ _ _ (Act.put _ (some 26) _) _
        simp only [Act.put, List.setIfInBounds_toArray, List.set_cons_zero, List.set_cons_succ]
        refine wpAnyH_ready (rs := [10]) (by kernel_rfl) (by simp) ?_
        refine AllReadyH.cons rfl (fun K' hK => ?_) AllReadyH.nil
        rw [if_pos (by rfl)]
        refine wp_store_row 46 (.tmp 8) (.tmp 25) rfl R8 (stC D0 D1 D2 D3 x.pods.length m0 x.mnts.length m1 x.devs.length m2 x.lks.length m3 x.ph x.co x.ck x.bo x.ba x.lb x.gd x.pr) rfl rfl 46 _ H8 HI.out rfl (by simp [Value.oneCell']) ?_
        have kk := keepsRow_ v4 R8 (stC D0 D1 D2 D3 x.pods.length m0 x.mnts.length m1 x.devs.length m2 x.lks.length m3 x.ph x.co x.ck x.bo x.ba x.lb x.gd x.pr)
        replace XP := XP.keeps kk (by rintro b rfl; omega) (by show ¬ w.heap.size = R8; omega)
        replace HZ := (setRow_other _ R8 (w.heap.size + 1) (stC D0 D1 D2 D3 x.pods.length m0 x.mnts.length m1 x.devs.length m2 x.lks.length m3 x.ph x.co x.ck x.bo x.ba x.lb x.gd x.pr) (by omega)).trans HZ
        replace K := belowRow_ K (B := R8) (by omega) (stC D0 D1 D2 D3 x.pods.length m0 x.mnts.length m1 x.devs.length m2 x.lks.length m3 x.ph x.co x.ck x.bo x.ba x.lb x.gd x.pr)
        replace OT := OT.keepsT kk H8 (by decide)
        replace H8 := setRow_heap _ _ _ (stC D0 D1 D2 D3 x.pods.length m0 x.mnts.length m1 x.devs.length m2 x.lks.length m3 x.ph x.co x.ck x.bo x.ba x.lb x.gd x.pr) _ _ H8
        clear kk
        generalize v4.setRow R8 (stC D0 D1 D2 D3 x.pods.length m0 x.mnts.length m1 x.devs.length m2 x.lks.length m3 x.ph x.co x.ck x.bo x.ba x.lb x.gd x.pr) = v5 at K XP HZ H8 OT ⊢
        refine hK.out _ _ XP.C (fun _ => ?_)
        clear hK K'
        try (change wpAnyH _ _ _ _ _ _ _ (Act.put _ none _) _; simp only [Act.put])
        refine wpAnyH_ready (rs := [11]) (by kernel_rfl) (by simp) ?_
        refine AllReadyH.cons rfl (fun K' hK => ?_) AllReadyH.nil
        go_simp
        refine hK.out _ _ XP.C (fun _ => ?_)
        clear hK K'
        try (change wpAnyH _ _ _ _ _ _ _ (Act.put _ (some 9) _) _; simp only [Act.put, List.setIfInBounds_toArray, List.set_cons_zero, List.set_cons_succ])
        refine wpAnyH_done (by kernel_rfl) ?_ _
        refine NoPanic.normal ?_
        go_wp2_with fail
        go_meet
        exact ⟨R8, D0, D1, D2, D3, m0, m1, m2, m3, rfl, rfl, K, XP, HZ, h8g, H8, OT⟩
      refine AllReadyH.cons rfl (fun K' hK => ?_) AllReadyH.nil
      go_simp
      have H8 := heap_alloc_new v0 (.cells (stC none none none none 0 0 0 0 0 0 0 0 0 false 0 0 0 0 0 0) 46)
      have h8g : w.heap.size + 1 < v0.heap.size := (Array.getElem?_eq_some_iff.1 HZ).1
      have hb := (Below.refl v0.heap.size v0).alloc (Nat.le_refl _) (.cells (stC none none none none 0 0 0 0 0 0 0 0 0 false 0 0 0 0 0 0) 46)
      try replace OL := OL.below hb
      try replace ON := ON.below hb
      try replace OR1 := OR1.below hb
      try replace OT := OT.below hb
      replace K := K.trans (hb.mono K.size)
      replace XP := XP.step hb
      replace HZ := (hb.block _ (Array.getElem?_eq_some_iff.1 HZ).1).trans HZ
      clear hb
      obtain ⟨v1, hwv⟩ : ∃ W, v0.alloc (.cells (stC none none none none 0 0 0 0 0 0 0 0 0 false 0 0 0 0 0 0) 46) = W := ⟨_, rfl⟩
      rw [hwv] at H8 K XP HZ ⊢
      try rw [hwv] at OL
      try rw [hwv] at ON
      try rw [hwv] at OR1
      try rw [hwv] at OT
      clear hwv
      obtain ⟨R8, hR8⟩ : ∃ R, v0.heap.size = R := ⟨_, rfl⟩
      rw [hR8] at H8 h8g ⊢
      clear hR8
      refine hK.out _ _ XP.C (fun _ => ?_)
      clear hK K'
      try (change wpAnyH _ _ _ _ _ _ _ (Act.put _ (some 8) _) _; simp only [Act.put, List.setIfInBounds_toArray, List.set_cons_zero, List.set_cons_succ])
      refine wpAnyH_ready (rs := [2]) (by kernel_rfl) (by simp) ?_
      refine AllReadyH.cons rfl (fun K' hK => ?_) AllReadyH.nil
      go_simp
      go_at_call 57
      refine (implNewState_any _ d v1 ((HP.out.is.below K (Nat.le_refl _)).more K.size)).mono ?_
      rintro e v2 ⟨vs, rfl, ON, hb⟩
      replace ON := ON.base K.size
      try replace H8 := (hb.block _ (Array.getElem?_eq_some_iff.1 H8).1).trans H8
      replace OL := OL.below hb
      replace K := K.trans (hb.mono K.size)
      replace XP := XP.step hb
      replace HZ := (hb.block _ (Array.getElem?_eq_some_iff.1 HZ).1).trans HZ
      clear hb
      go_wp2_with fail
      refine hK.out _ _ XP.C (fun _ => ?_)
      clear hK K'
      try (change wpAnyH _ _ _ _ _ _ _ (Act.put _ (some 21) _) _; simp only [Act.put, List.setIfInBounds_toArray, List.set_cons_zero, List.set_cons_succ])
      refine wpAnyH_ready (rs := [4]) (by kernel_rfl) (by simp) ?_
      refine AllReadyH.cons rfl (fun K' hK => ?_) AllReadyH.nil
      go_simp
      go_at_call 58
      refine (concat_any vl w.heap.size ls v2 OL HTOT.out).mono ?_
      rintro e v3 ⟨vr, rfl, OR1, hb⟩
      try replace H8 := (hb.block _ (Array.getElem?_eq_some_iff.1 H8).1).trans H8
      replace ON := ON.below hb
      replace K := K.trans (hb.mono K.size)
      replace XP := XP.step hb
      replace HZ := (hb.block _ (Array.getElem?_eq_some_iff.1 HZ).1).trans HZ
      clear hb
      go_wp2_with fail
      refine hK.out _ _ XP.C (fun _ => ?_)
      clear hK K'
      try (change wpAnyH _ _ _ _ _ _ _ (Act.put _ (some 23) _) _; simp only [Act.put, List.setIfInBounds_toArray, List.set_cons_zero, List.set_cons_succ])
      refine wpAnyH_ready (rs := [5]) (by kernel_rfl) (by simp) ?_
      refine AllReadyH.cons rfl (fun K' hK => ?_) AllReadyH.nil
      go_simp
      go_at_call 56
      have hall := implAll_any _ _ _ d (newS d) ls.flatten v3 ((HP.out.is.below K (Nat.le_refl _)).more K.size) (ON.isR HNF.out) (OR1.rt) (HN.out.go K)
      rw [HXB.out] at hall
      refine hall.mono ?_
      clear hall
      rintro e v4 ⟨vx, rfl, OT, hb⟩
      replace OT := OT.base K.size
      obtain ⟨y0, y1, y2, y3, rfl, -⟩ := OT.it
      obtain ⟨⟨D0, m0, rfl⟩, ⟨D1, m1, rfl⟩, ⟨D2, m2, rfl⟩, ⟨D3, m3, rfl⟩⟩ := OT.shapes
      try replace H8 := (hb.block _ (Array.getElem?_eq_some_iff.1 H8).1).trans H8
      replace K := K.trans (hb.mono K.size)
      replace XP := XP.step hb
      replace HZ := (hb.block _ (Array.getElem?_eq_some_iff.1 HZ).1).trans HZ
      clear hb ON OR1
      go_wp2_with fail
      refine hK.out _ _ XP.C (fun _ => ?_)
      clear hK K'
      try (change wpAnyH _ _ _ _ _ _ _ (Act.put _ (some 24) _) _; simp only [Act.put, List.setIfInBounds_toArray, List.set_cons_zero, List.set_cons_succ])
      refine wpAnyH_take (i := 6) (v := ?_) rfl (by kernel_rfl) (by kernel_rfl) (by kernel_rfl) (fun _ _ _ h => h) (Or.inl ⟨by rfl, ?_⟩) XP.C ?_
      rotate_left 1
      · intro w hSw
        skip
        go_simp
        try with_reducible rfl
      change wpAnyH _ _ _ _ _ _ _ (Act.put _ (some 18) _) _
      simp only [Act.put, List.setIfInBounds_toArray, List.set_cons_zero, List.set_cons_succ]
      refine wpAnyH_take (i := 7) (v := ?_) rfl (by kernel_rfl) (by kernel_rfl) (by kernel_rfl) (fun _ _ _ h => h) (Or.inl ⟨by rfl, ?_⟩) XP.C ?_
      rotate_left 1
      · intro w hSw
        skip
        go_simp
        try with_reducible rfl
      change wpAnyH _ _ _ _ _ _ _ (Act.put _ (some 25) _) _
      simp only [Act.put, List.setIfInBounds_toArray, List.set_cons_zero, List.set_cons_succ]
      refine wpAnyH_take (i := 8) (v := ?_) rfl (by kernel_rfl) (by kernel_rfl) (by kernel_rfl) (fun _ _ _ h => h) (Or.inl ⟨by rfl, ?_⟩) XP.C ?_
      rotate_left 1
      · intro w hSw
        skip
        go_simp
        try with_reducible rfl
      change wpAnyH _ _ _ _ _ _ _ (Act.put _ (some 26) _) _
      simp only [Act.put, List.setIfInBounds_toArray, List.set_cons_zero, List.set_cons_succ]
      refine wpAnyH_ready (rs := [10]) (by kernel_rfl) (by simp) ?_
      refine AllReadyH.cons rfl (fun K' hK => ?_) AllReadyH.nil
      rw [if_pos (by rfl)]
      refine wp_store_row 46 (.tmp 8) (.tmp 25) rfl R8 (stC D0 D1 D2 D3 x.pods.length m0 x.mnts.length m1 x.devs.length m2 x.lks.length m3 x.ph x.co x.ck x.bo x.ba x.lb x.gd x.pr) rfl rfl 46 _ H8 HI.out rfl (by simp [Value.oneCell']) ?_
      have kk := keepsRow_ v4 R8 (stC D0 D1 D2 D3 x.pods.length m0 x.mnts.length m1 x.devs.length m2 x.lks.length m3 x.ph x.co x.ck x.bo x.ba x.lb x.gd x.pr)
      replace XP := XP.keeps kk (by rintro b rfl; omega) (by show ¬ w.heap.size = R8; omega)
      replace HZ := (setRow_other _ R8 (w.heap.size + 1) (stC D0 D1 D2 D3 x.pods.length m0 x.mnts.length m1 x.devs.length m2 x.lks.length m3 x.ph x.co x.ck x.bo x.ba x.lb x.gd x.pr) (by omega)).trans HZ
      replace K := belowRow_ K (B := R8) (by omega) (stC D0 D1 D2 D3 x.pods.length m0 x.mnts.length m1 x.devs.length m2 x.lks.length m3 x.ph x.co x.ck x.bo x.ba x.lb x.gd x.pr)
      replace OT := OT.keepsT kk H8 (by decide)
      replace H8 := setRow_heap _ _ _ (stC D0 D1 D2 D3 x.pods.length m0 x.mnts.length m1 x.devs.length m2 x.lks.length m3 x.ph x.co x.ck x.bo x.ba x.lb x.gd x.pr) _ _ H8
      clear kk
      generalize v4.setRow R8 (stC D0 D1 D2 D3 x.pods.length m0 x.mnts.length m1 x.devs.length m2 x.lks.length m3 x.ph x.co x.ck x.bo x.ba x.lb x.gd x.pr) = v5 at K XP HZ H8 OT ⊢
      refine hK.out _ _ XP.C (fun _ => ?_)
      clear hK K'
      try (change wpAnyH _ _ _ _ _ _ _ (Act.put _ none _) _; simp only [Act.put])
      refine wpAnyH_ready (rs := [11]) (by kernel_rfl) (by simp) ?_
      refine AllReadyH.cons rfl (fun K' hK => ?_) AllReadyH.nil
      go_simp
      refine hK.out _ _ XP.C (fun _ => ?_)
      clear hK K'
      try (change wpAnyH _ _ _ _ _ _ _ (Act.put _ (some 9) _) _; simp only [Act.put, List.setIfInBounds_toArray, List.set_cons_zero, List.set_cons_succ])
      refine wpAnyH_done (by kernel_rfl) ?_ _
      refine NoPanic.normal ?_
      go_wp2_with fail
      go_meet
      exact ⟨R8, D0, D1, D2, D3, m0, m1, m2, m3, rfl, rfl, K, XP, HZ, h8g, H8, OT⟩
    case rest =>
      obtain ⟨g, D0, D1, D2, D3, m0, m1, m2, m3, rfl, rfl, K2, XP2, HZ2, hg, HG, OT⟩ := hcut
      clear K XP HZ OL
      have K := K2
      have XP := XP2
      have HZ := HZ2
      clear K2 XP2 HZ2
      cases xb
      · have HW := Lib.hid (HNO.out rfl)
        go_wp2_with (
          (with_reducible refine store_agent (x := 4) (y := 29) (g := w.heap.size + 1) (cs := agC (.slice none 0 0) (.slice none 0 0) (.slice none 0 0) (.slice none 0 0) 0 0 0 0 false 0 0 0 0 (.slice none 0 0) (.slice none 0 0) (.slice none 0 0) (.slice none 0 0) 0 0 (.slice none 0 0)) ?_ ?_ HZ ?_ ?_ ?_ ?_)
          · rfl
          · rfl
          · exact HJ.out
          · rfl
          · simp [Value.oneCell'])
        rw [HW.out]
        exact bodyPost_ret (v := .tuple #[.agg (agC (.slice none 0 0) (.slice none 0 0) (.slice none 0 0) (.slice none 0 0) 0 0 0 0 false 0 0 0 0 (.slice none 0 0) (.slice none 0 0) (.slice none 0 0) (.slice none 0 0) 0 0 (.slice none 0 0)), .bool false]) (results_two_row Tryz.results21 _ _ _ _ _ _ _ _ rfl rfl (setRow_heap _ _ _ _ _ _ HZ) Tryz.underlying48 rfl HJ.out) rfl ⟨_, rfl, OwnAg.zero _ _, belowRow_ K (by omega) _⟩
      · have HT : Hid (Bt w w.heap.size (headOf (.slice Ab b.length cb) n) (b.take n)) := Lib.hid (HB.out.head HRB.out hle)
        have HTR := Lib.hid (HRB.out.head n)
        have HY := Lib.hid (HYES.out rfl)
        clear HYES HNO HXB HTOT HNF HANS HF
        obtain ⟨bt, hbt⟩ : ∃ L, b.take n = L := ⟨_, rfl⟩
        rw [hbt] at HT HY
        have hbl : bt.length ≤ 1200 := by rw [← hbt, List.length_take]; omega
        clear hbt
        rcases HRB.out with hnil | ⟨ad, m, c, hreal⟩
        · injection hnil with h1 h2 h3
          subst h1
          obtain rfl : n = 0 := by omega
          simp only [headOf] at HT HTR
          go_upto_region 7 with fail
          refine wp_region_noPanic ?_
          refine wp_region_held_drew (S := (fun W => (∀ o, W.cell? ⟨w.heap.size, o, none⟩ = (planC A0 A1 A2 A3 d.n0 c0 d.n1 c1 d.n2 c2 d.n3 c3 d.l d.p d.t)[o]?) ∧ (∀ o, W.cell? ⟨g, o, none⟩ = (stC D0 D1 D2 D3 x.pods.length m0 x.mnts.length m1 x.devs.length m2 x.lks.length m3 x.ph x.co x.ck x.bo x.ba x.lb x.gd x.pr)[o]?))) (by kernel_rfl) (⟨(XP.step (Below.refl _ _).drew).C, fun o => cell_of_row _ _ o _ _ _ (by rw [heap_drew]; exact HG)⟩) (fun _ => ?_)
          rw [← heap_drew wc] at HZ HG
          replace K := K.drew
          replace XP := XP.drew
          replace OT := OT.below (Below.refl _ _).drew
          generalize wc.drew = v0 at K XP HZ HG OT ⊢
          refine wpAnyH_take (i := 0) (v := ?_) rfl (by kernel_rfl) (by kernel_rfl) (by kernel_rfl) (fun _ _ _ h => h) (Or.inl ⟨by rfl, ?_⟩) ⟨XP.C, fun o => cell_of_row _ _ o _ _ _ HG⟩ ?_
          rotate_left 1
          · intro w hSw
            obtain ⟨hs1, hs2⟩ := hSw
            go_simp
            try with_reducible rfl
          change wpAnyH _ _ _ _ _ _ _ (Act.put _ (some 30) _) _
          simp only [Act.put, List.setIfInBounds_toArray, List.set_cons_zero, List.set_cons_succ]
          refine wpAnyH_take (i := 2) (v := ?_) rfl (by kernel_rfl) (by kernel_rfl) (by kernel_rfl) (fun _ _ _ h => h) (Or.inl ⟨by rfl, ?_⟩) ⟨XP.C, fun o => cell_of_row _ _ o _ _ _ HG⟩ ?_
          rotate_left 1
          · intro w hSw
            obtain ⟨hs1, hs2⟩ := hSw
            go_simp
            try with_reducible rfl
          change wpAnyH _ _ _ _ _ _ _ (Act.put _ (some 32) _) _
          simp only [Act.put, List.setIfInBounds_toArray, List.set_cons_zero, List.set_cons_succ]
          refine wpAnyH_take (i := 4) (v := ?_) rfl (by kernel_rfl) (by kernel_rfl) (by kernel_rfl) (fun _ _ _ h => h) (Or.inl ⟨by rfl, ?_⟩) ⟨XP.C, fun o => cell_of_row _ _ o _ _ _ HG⟩ ?_
          rotate_left 1
          · intro w hSw
            obtain ⟨hs1, hs2⟩ := hSw
            go_simp
            try with_reducible rfl
          change wpAnyH _ _ _ _ _ _ _ (Act.put _ (some 34) _) _
          simp only [Act.put, List.setIfInBounds_toArray, List.set_cons_zero, List.set_cons_succ]
          refine wpAnyH_take (i := 5) (v := ?_) rfl (by kernel_rfl) (by kernel_rfl) (by kernel_rfl) (fun _ _ _ h => h) (Or.inl ⟨by rfl, ?_⟩) ⟨XP.C, fun o => cell_of_row _ _ o _ _ _ HG⟩ ?_
          rotate_left 1
          · intro w hSw
            obtain ⟨hs1, hs2⟩ := hSw
            go_simp
            try with_reducible rfl
          change wpAnyH _ _ _ _ _ _ _ (Act.put _ (some 35) _) _
          simp only [Act.put, List.setIfInBounds_toArray, List.set_cons_zero, List.set_cons_succ]
          refine wpAnyH_take (i := 6) (v := ?_) rfl (by kernel_rfl) (by kernel_rfl) (by kernel_rfl) (fun _ _ _ h => h) (Or.inl ⟨by rfl, ?_⟩) ⟨XP.C, fun o => cell_of_row _ _ o _ _ _ HG⟩ ?_
          rotate_left 1
          · intro w hSw
            obtain ⟨hs1, hs2⟩ := hSw
            go_simp
            try with_reducible rfl
          change wpAnyH _ _ _ _ _ _ _ (Act.put _ (some 36) _) _
          simp only [Act.put, List.setIfInBounds_toArray, List.set_cons_zero, List.set_cons_succ]
          refine wpAnyH_ready (rs := [1, 3]) (by kernel_rfl) (by simp) ?_
          refine AllReadyH.cons rfl (fun K' hK => ?_) ?_
          · skip
            go_simp
            go_at_call 59
            refine (ownPlan_any _ d v0 ((HP.out.below K (Nat.le_refl _)).more K.size)).mono ?_
            rintro e v1 ⟨q0, q1, q2, q3, rfl, Lp, hb⟩
            have AP : Apart q1 (.slice D3 x.lks.length m3) := by
              obtain ⟨z0, z1, z2, z3, hz, -, -, -, o3⟩ := OT.it
              injection hz with hz
              injection hz with hz
              simp only [List.cons.injEq, and_true, true_and] at hz
              obtain ⟨-, -, -, rfl⟩ := hz
              exact apart_later o3 Lp.o1
            replace Lp := Lp.base K.size
            obtain ⟨Q0, e0, rfl, -, -⟩ := Lp.o0.formR
            obtain ⟨Q1, e1, rfl, -, -⟩ := Lp.o1.formR
            obtain ⟨Q2, e2, rfl, -, -⟩ := Lp.o2.formR
            obtain ⟨Q3, e3, rfl, -, -⟩ := Lp.o3.formR
            try replace OE := OE.below hb
            replace K := K.trans (hb.mono K.size)
            replace XP := XP.step hb
            replace HZ := (hb.block _ (Array.getElem?_eq_some_iff.1 HZ).1).trans HZ
            replace HG := (hb.block _ (Array.getElem?_eq_some_iff.1 HG).1).trans HG
            replace OT := OT.below hb
            clear hb
            go_wp2_with fail
            refine hK.out _ _ ⟨XP.C, fun o => cell_of_row _ _ o _ _ _ HG⟩ (fun _ => ?_)
            clear hK K'
            try (change wpAnyH _ _ _ _ _ _ _ (Act.put _ (some 31) _) _; simp only [Act.put, List.setIfInBounds_toArray, List.set_cons_zero, List.set_cons_succ])
            refine wpAnyH_ready (rs := [3]) (by kernel_rfl) (by simp) ?_
            refine AllReadyH.cons rfl (fun K' hK => ?_) AllReadyH.nil
            go_simp
            have OE := OB.empty (w := v1) (B := w.heap.size) K.size
            have hE := (Array.getElem?_eq_some_iff.1 HG).1
            have hb := (Below.refl v1.heap.size v1).alloc (Nat.le_refl _) (.cells #[] 5)
            try replace Lp := Lp.below hb
            replace K := K.trans (hb.mono K.size)
            replace XP := XP.step hb
            replace HZ := (hb.block _ (Array.getElem?_eq_some_iff.1 HZ).1).trans HZ
            replace HG := (hb.block _ (Array.getElem?_eq_some_iff.1 HG).1).trans HG
            replace OT := OT.below hb
            clear hb
            obtain ⟨v2, hwv⟩ : ∃ W, v1.alloc (.cells #[] 5) = W := ⟨_, rfl⟩
            rw [hwv] at OE K XP HZ HG OT ⊢
            try rw [hwv] at Lp
            clear hwv
            obtain ⟨R8, hR8⟩ : ∃ R, v1.heap.size = R := ⟨_, rfl⟩
            rw [hR8] at OE hE ⊢
            clear hR8
            refine hK.out _ _ ⟨XP.C, fun o => cell_of_row _ _ o _ _ _ HG⟩ (fun _ => ?_)
            clear hK K'
            try (change wpAnyH _ _ _ _ _ _ _ (Act.put _ (some 33) _) _; simp only [Act.put, List.setIfInBounds_toArray, List.set_cons_zero, List.set_cons_succ])
            refine wpAnyH_ready (rs := [7]) (by kernel_rfl) (by simp) ?_
            refine AllReadyH.cons rfl (fun K' hK => ?_) AllReadyH.nil
            refine step_append_bt rfl _ _ rfl w.heap.size _ [] rfl OE _ bt rfl (HT.out.below K (Nat.le_refl _)) HTR.out (by simp only [List.length_nil]; omega) K.size ?_
            intro vb v3 Ob hgr
            replace Lp := Lp.grown OE hgr
            replace OT := OT.grown OE hgr
            replace XP := XP.grown hgr (fun r hr => by have h9 : R8 = r := (by injection hr); exact .inr ⟨by omega, by omega⟩)
            replace HZ := (hgr.block _ (Array.getElem?_eq_some_iff.1 HZ).1 (by intro h9; have h8 : w.heap.size + 1 = R8 := (by injection h9); omega)).trans HZ
            replace HG := (hgr.block _ (Array.getElem?_eq_some_iff.1 HG).1 (by intro h9; have h8 : g = R8 := (by injection h9); omega)).trans HG
            replace K := K.grown hgr K.size (fun r hr => by have h9 : R8 = r := (by injection hr); omega)
            rw [List.nil_append] at Ob
            obtain ⟨Ao, co, -, rfl, -⟩ := Ob.open_
            clear OE hgr
            refine hK.out _ _ ⟨XP.C, fun o => cell_of_row _ _ o _ _ _ HG⟩ (fun _ => ?_)
            clear hK K'
            try (change wpAnyH _ _ _ _ _ _ _ (Act.put _ (some 37) _) _; simp only [Act.put, List.setIfInBounds_toArray, List.set_cons_zero, List.set_cons_succ])
            refine wpAnyH_take (i := 8) (v := ?_) rfl (by kernel_rfl) (by kernel_rfl) (by kernel_rfl) (fun _ _ _ h => h) (Or.inl ⟨by rfl, ?_⟩) ⟨XP.C, fun o => cell_of_row _ _ o _ _ _ HG⟩ ?_
            rotate_left 1
            · intro w hSw
              obtain ⟨hs1, hs2⟩ := hSw
              go_simp
              try with_reducible rfl
            change wpAnyH _ _ _ _ _ _ _ (Act.put _ (some 38) _) _
            simp only [Act.put, List.setIfInBounds_toArray, List.set_cons_zero, List.set_cons_succ]
            refine wpAnyH_ready (rs := [9]) (by kernel_rfl) (by simp) ?_
            refine AllReadyH.cons rfl (fun K' hK => ?_) AllReadyH.nil
            rw [if_pos (by rfl)]
            refine wp_store_row 48 (.tmp 4) (.tmp 38) rfl (w.heap.size + 1) (agC (.slice Q0 d.n0 e0) (.slice Q1 d.n1 e1) (.slice Q2 d.n2 e2) (.slice Q3 d.n3 e3) d.l d.p d.t x.ph x.co x.ck x.bo x.ba x.lb (.slice D0 x.pods.length m0) (.slice D1 x.mnts.length m1) (.slice D2 x.devs.length m2) (.slice D3 x.lks.length m3) x.gd x.pr (.slice Ao bt.length co)) rfl rfl 48 _ HZ HJ.out rfl (by simp [Value.oneCell']) ?_
            have kk := keepsRow_ v3 (w.heap.size + 1) (agC (.slice Q0 d.n0 e0) (.slice Q1 d.n1 e1) (.slice Q2 d.n2 e2) (.slice Q3 d.n3 e3) d.l d.p d.t x.ph x.co x.ck x.bo x.ba x.lb (.slice D0 x.pods.length m0) (.slice D1 x.mnts.length m1) (.slice D2 x.devs.length m2) (.slice D3 x.lks.length m3) x.gd x.pr (.slice Ao bt.length co))
            have hh := HZ
            replace XP := XP.keeps kk (by rintro b rfl; omega) (by show ¬ w.heap.size = w.heap.size + 1; omega)
            replace HG := (setRow_other _ (w.heap.size + 1) g (agC (.slice Q0 d.n0 e0) (.slice Q1 d.n1 e1) (.slice Q2 d.n2 e2) (.slice Q3 d.n3 e3) d.l d.p d.t x.ph x.co x.ck x.bo x.ba x.lb (.slice D0 x.pods.length m0) (.slice D1 x.mnts.length m1) (.slice D2 x.devs.length m2) (.slice D3 x.lks.length m3) x.gd x.pr (.slice Ao bt.length co)) (by omega)).trans HG
            replace HZ := setRow_heap _ _ _ (agC (.slice Q0 d.n0 e0) (.slice Q1 d.n1 e1) (.slice Q2 d.n2 e2) (.slice Q3 d.n3 e3) d.l d.p d.t x.ph x.co x.ck x.bo x.ba x.lb (.slice D0 x.pods.length m0) (.slice D1 x.mnts.length m1) (.slice D2 x.devs.length m2) (.slice D3 x.lks.length m3) x.gd x.pr (.slice Ao bt.length co)) _ _ HZ
            replace K := belowRow_ K (B := w.heap.size + 1) (by omega) (agC (.slice Q0 d.n0 e0) (.slice Q1 d.n1 e1) (.slice Q2 d.n2 e2) (.slice Q3 d.n3 e3) d.l d.p d.t x.ph x.co x.ck x.bo x.ba x.lb (.slice D0 x.pods.length m0) (.slice D1 x.mnts.length m1) (.slice D2 x.devs.length m2) (.slice D3 x.lks.length m3) x.gd x.pr (.slice Ao bt.length co))
            replace Lp := Lp.keeps kk hh (by decide)
            replace OT := OT.keepsT kk hh (by decide)
            replace Ob := Ob.keepsT kk hh (by decide)
            clear kk hh
            generalize v3.setRow (w.heap.size + 1) (agC (.slice Q0 d.n0 e0) (.slice Q1 d.n1 e1) (.slice Q2 d.n2 e2) (.slice Q3 d.n3 e3) d.l d.p d.t x.ph x.co x.ck x.bo x.ba x.lb (.slice D0 x.pods.length m0) (.slice D1 x.mnts.length m1) (.slice D2 x.devs.length m2) (.slice D3 x.lks.length m3) x.gd x.pr (.slice Ao bt.length co)) = v4 at K XP HZ HG OT Lp Ob ⊢
            refine hK.out _ _ ⟨XP.C, fun o => cell_of_row _ _ o _ _ _ HG⟩ (fun _ => ?_)
            clear hK K'
            try (change wpAnyH _ _ _ _ _ _ _ (Act.put _ none _) _; simp only [Act.put])
            refine wpAnyH_ready (rs := [10]) (by kernel_rfl) (by simp) ?_
            refine AllReadyH.cons rfl (fun K' hK => ?_) AllReadyH.nil
            go_simp
            refine hK.out _ _ ⟨XP.C, fun o => cell_of_row _ _ o _ _ _ HG⟩ (fun _ => ?_)
            clear hK K'
            try (change wpAnyH _ _ _ _ _ _ _ (Act.put _ (some 5) _) _; simp only [Act.put, List.setIfInBounds_toArray, List.set_cons_zero, List.set_cons_succ])
            refine wpAnyH_done (by kernel_rfl) ?_ _
            refine NoPanic.normal ?_
            go_wp2_with fail
            rw [HY.out]
            exact bodyPost_ret (v := .tuple #[.agg (agC (.slice Q0 d.n0 e0) (.slice Q1 d.n1 e1) (.slice Q2 d.n2 e2) (.slice Q3 d.n3 e3) d.l d.p d.t x.ph x.co x.ck x.bo x.ba x.lb (.slice D0 x.pods.length m0) (.slice D1 x.mnts.length m1) (.slice D2 x.devs.length m2) (.slice D3 x.lks.length m3) x.gd x.pr (.slice Ao bt.length co)), .bool true]) (results_two_row Tryz.results21 _ _ _ _ _ _ _ _ rfl rfl HZ Tryz.underlying48 rfl HJ.out) rfl ⟨_, rfl, ⟨_, _, _, _, _, _, _, _, _, rfl, Lp, OT, Ob, AP⟩, K⟩
          refine AllReadyH.cons rfl (fun K' hK => ?_) AllReadyH.nil
          go_simp
          have OE := OB.empty (w := v0) (B := w.heap.size) K.size
          have hE := (Array.getElem?_eq_some_iff.1 HG).1
          have hb := (Below.refl v0.heap.size v0).alloc (Nat.le_refl _) (.cells #[] 5)
          try replace Lp := Lp.below hb
          replace K := K.trans (hb.mono K.size)
          replace XP := XP.step hb
          replace HZ := (hb.block _ (Array.getElem?_eq_some_iff.1 HZ).1).trans HZ
          replace HG := (hb.block _ (Array.getElem?_eq_some_iff.1 HG).1).trans HG
          replace OT := OT.below hb
          clear hb
          obtain ⟨v1, hwv⟩ : ∃ W, v0.alloc (.cells #[] 5) = W := ⟨_, rfl⟩
          rw [hwv] at OE K XP HZ HG OT ⊢
          try rw [hwv] at Lp
          clear hwv
          obtain ⟨R8, hR8⟩ : ∃ R, v0.heap.size = R := ⟨_, rfl⟩
          rw [hR8] at OE hE ⊢
          clear hR8
          refine hK.out _ _ ⟨XP.C, fun o => cell_of_row _ _ o _ _ _ HG⟩ (fun _ => ?_)
          clear hK K'
          try (change wpAnyH _ _ _ _ _ _ _ (Act.put _ (some 33) _) _; simp only [Act.put, List.setIfInBounds_toArray, List.set_cons_zero, List.set_cons_succ])
          refine wpAnyH_ready (rs := [1]) (by kernel_rfl) (by simp) ?_
          refine AllReadyH.cons rfl (fun K' hK => ?_) AllReadyH.nil
          go_simp
          go_at_call 59
          refine (ownPlan_any _ d v1 ((HP.out.below K (Nat.le_refl _)).more K.size)).mono ?_
          rintro e v2 ⟨q0, q1, q2, q3, rfl, Lp, hb⟩
          have AP : Apart q1 (.slice D3 x.lks.length m3) := by
            obtain ⟨z0, z1, z2, z3, hz, -, -, -, o3⟩ := OT.it
            injection hz with hz
            injection hz with hz
            simp only [List.cons.injEq, and_true, true_and] at hz
            obtain ⟨-, -, -, rfl⟩ := hz
            exact apart_later o3 Lp.o1
          replace Lp := Lp.base K.size
          obtain ⟨Q0, e0, rfl, -, -⟩ := Lp.o0.formR
          obtain ⟨Q1, e1, rfl, -, -⟩ := Lp.o1.formR
          obtain ⟨Q2, e2, rfl, -, -⟩ := Lp.o2.formR
          obtain ⟨Q3, e3, rfl, -, -⟩ := Lp.o3.formR
          try replace OE := OE.below hb
          replace K := K.trans (hb.mono K.size)
          replace XP := XP.step hb
          replace HZ := (hb.block _ (Array.getElem?_eq_some_iff.1 HZ).1).trans HZ
          replace HG := (hb.block _ (Array.getElem?_eq_some_iff.1 HG).1).trans HG
          replace OT := OT.below hb
          clear hb
          go_wp2_with fail
          refine hK.out _ _ ⟨XP.C, fun o => cell_of_row _ _ o _ _ _ HG⟩ (fun _ => ?_)
          clear hK K'
          try (change wpAnyH _ _ _ _ _ _ _ (Act.put _ (some 31) _) _; simp only [Act.put, List.setIfInBounds_toArray, List.set_cons_zero, List.set_cons_succ])
          refine wpAnyH_ready (rs := [7]) (by kernel_rfl) (by simp) ?_
          refine AllReadyH.cons rfl (fun K' hK => ?_) AllReadyH.nil
          refine step_append_bt rfl _ _ rfl w.heap.size _ [] rfl OE _ bt rfl (HT.out.below K (Nat.le_refl _)) HTR.out (by simp only [List.length_nil]; omega) K.size ?_
          intro vb v3 Ob hgr
          replace Lp := Lp.grown OE hgr
          replace OT := OT.grown OE hgr
          replace XP := XP.grown hgr (fun r hr => by have h9 : R8 = r := (by injection hr); exact .inr ⟨by omega, by omega⟩)
          replace HZ := (hgr.block _ (Array.getElem?_eq_some_iff.1 HZ).1 (by intro h9; have h8 : w.heap.size + 1 = R8 := (by injection h9); omega)).trans HZ
          replace HG := (hgr.block _ (Array.getElem?_eq_some_iff.1 HG).1 (by intro h9; have h8 : g = R8 := (by injection h9); omega)).trans HG
          replace K := K.grown hgr K.size (fun r hr => by have h9 : R8 = r := (by injection hr); omega)
          rw [List.nil_append] at Ob
          obtain ⟨Ao, co, -, rfl, -⟩ := Ob.open_
          clear OE hgr
          refine hK.out _ _ ⟨XP.C, fun o => cell_of_row _ _ o _ _ _ HG⟩ (fun _ => ?_)
          clear hK K'
          try (change wpAnyH _ _ _ _ _ _ _ (Act.put _ (some 37) _) _; simp only [Act.put, List.setIfInBounds_toArray, List.set_cons_zero, List.set_cons_succ])
          refine wpAnyH_take (i := 8) (v := ?_) rfl (by kernel_rfl) (by kernel_rfl) (by kernel_rfl) (fun _ _ _ h => h) (Or.inl ⟨by rfl, ?_⟩) ⟨XP.C, fun o => cell_of_row _ _ o _ _ _ HG⟩ ?_
          rotate_left 1
          · intro w hSw
            obtain ⟨hs1, hs2⟩ := hSw
            go_simp
            try with_reducible rfl
          change wpAnyH _ _ _ _ _ _ _ (Act.put _ (some 38) _) _
          simp only [Act.put, List.setIfInBounds_toArray, List.set_cons_zero, List.set_cons_succ]
          refine wpAnyH_ready (rs := [9]) (by kernel_rfl) (by simp) ?_
          refine AllReadyH.cons rfl (fun K' hK => ?_) AllReadyH.nil
          rw [if_pos (by rfl)]
          refine wp_store_row 48 (.tmp 4) (.tmp 38) rfl (w.heap.size + 1) (agC (.slice Q0 d.n0 e0) (.slice Q1 d.n1 e1) (.slice Q2 d.n2 e2) (.slice Q3 d.n3 e3) d.l d.p d.t x.ph x.co x.ck x.bo x.ba x.lb (.slice D0 x.pods.length m0) (.slice D1 x.mnts.length m1) (.slice D2 x.devs.length m2) (.slice D3 x.lks.length m3) x.gd x.pr (.slice Ao bt.length co)) rfl rfl 48 _ HZ HJ.out rfl (by simp [Value.oneCell']) ?_
          have kk := keepsRow_ v3 (w.heap.size + 1) (agC (.slice Q0 d.n0 e0) (.slice Q1 d.n1 e1) (.slice Q2 d.n2 e2) (.slice Q3 d.n3 e3) d.l d.p d.t x.ph x.co x.ck x.bo x.ba x.lb (.slice D0 x.pods.length m0) (.slice D1 x.mnts.length m1) (.slice D2 x.devs.length m2) (.slice D3 x.lks.length m3) x.gd x.pr (.slice Ao bt.length co))
          have hh := HZ
          replace XP := XP.keeps kk (by rintro b rfl; omega) (by show ¬ w.heap.size = w.heap.size + 1; omega)
          replace HG := (setRow_other _ (w.heap.size + 1) g (agC (.slice Q0 d.n0 e0) (.slice Q1 d.n1 e1) (.slice Q2 d.n2 e2) (.slice Q3 d.n3 e3) d.l d.p d.t x.ph x.co x.ck x.bo x.ba x.lb (.slice D0 x.pods.length m0) (.slice D1 x.mnts.length m1) (.slice D2 x.devs.length m2) (.slice D3 x.lks.length m3) x.gd x.pr (.slice Ao bt.length co)) (by omega)).trans HG
          replace HZ := setRow_heap _ _ _ (agC (.slice Q0 d.n0 e0) (.slice Q1 d.n1 e1) (.slice Q2 d.n2 e2) (.slice Q3 d.n3 e3) d.l d.p d.t x.ph x.co x.ck x.bo x.ba x.lb (.slice D0 x.pods.length m0) (.slice D1 x.mnts.length m1) (.slice D2 x.devs.length m2) (.slice D3 x.lks.length m3) x.gd x.pr (.slice Ao bt.length co)) _ _ HZ
          replace K := belowRow_ K (B := w.heap.size + 1) (by omega) (agC (.slice Q0 d.n0 e0) (.slice Q1 d.n1 e1) (.slice Q2 d.n2 e2) (.slice Q3 d.n3 e3) d.l d.p d.t x.ph x.co x.ck x.bo x.ba x.lb (.slice D0 x.pods.length m0) (.slice D1 x.mnts.length m1) (.slice D2 x.devs.length m2) (.slice D3 x.lks.length m3) x.gd x.pr (.slice Ao bt.length co))
          replace Lp := Lp.keeps kk hh (by decide)
          replace OT := OT.keepsT kk hh (by decide)
          replace Ob := Ob.keepsT kk hh (by decide)
          clear kk hh
          generalize v3.setRow (w.heap.size + 1) (agC (.slice Q0 d.n0 e0) (.slice Q1 d.n1 e1) (.slice Q2 d.n2 e2) (.slice Q3 d.n3 e3) d.l d.p d.t x.ph x.co x.ck x.bo x.ba x.lb (.slice D0 x.pods.length m0) (.slice D1 x.mnts.length m1) (.slice D2 x.devs.length m2) (.slice D3 x.lks.length m3) x.gd x.pr (.slice Ao bt.length co)) = v4 at K XP HZ HG OT Lp Ob ⊢
          refine hK.out _ _ ⟨XP.C, fun o => cell_of_row _ _ o _ _ _ HG⟩ (fun _ => ?_)
          clear hK K'
          try (change wpAnyH _ _ _ _ _ _ _ (Act.put _ none _) _; simp only [Act.put])
          refine wpAnyH_ready (rs := [10]) (by kernel_rfl) (by simp) ?_
          refine AllReadyH.cons rfl (fun K' hK => ?_) AllReadyH.nil
          go_simp
          refine hK.out _ _ ⟨XP.C, fun o => cell_of_row _ _ o _ _ _ HG⟩ (fun _ => ?_)
          clear hK K'
          try (change wpAnyH _ _ _ _ _ _ _ (Act.put _ (some 5) _) _; simp only [Act.put, List.setIfInBounds_toArray, List.set_cons_zero, List.set_cons_succ])
          refine wpAnyH_done (by kernel_rfl) ?_ _
          refine NoPanic.normal ?_
          go_wp2_with fail
          rw [HY.out]
          exact bodyPost_ret (v := .tuple #[.agg (agC (.slice Q0 d.n0 e0) (.slice Q1 d.n1 e1) (.slice Q2 d.n2 e2) (.slice Q3 d.n3 e3) d.l d.p d.t x.ph x.co x.ck x.bo x.ba x.lb (.slice D0 x.pods.length m0) (.slice D1 x.mnts.length m1) (.slice D2 x.devs.length m2) (.slice D3 x.lks.length m3) x.gd x.pr (.slice Ao bt.length co)), .bool true]) (results_two_row Tryz.results21 _ _ _ _ _ _ _ _ rfl rfl HZ Tryz.underlying48 rfl HJ.out) rfl ⟨_, rfl, ⟨_, _, _, _, _, _, _, _, _, rfl, Lp, OT, Ob, AP⟩, K⟩
        · injection hreal with h1 h2 h3
          subst h1 h2 h3
          simp only [headOf] at HT HTR
          have hpc : n ≤ cb := by omega
          go_upto_region 7 with fail
          refine wp_region_noPanic ?_
          refine wp_region_held_drew (S := (fun W => (∀ o, W.cell? ⟨w.heap.size, o, none⟩ = (planC A0 A1 A2 A3 d.n0 c0 d.n1 c1 d.n2 c2 d.n3 c3 d.l d.p d.t)[o]?) ∧ (∀ o, W.cell? ⟨g, o, none⟩ = (stC D0 D1 D2 D3 x.pods.length m0 x.mnts.length m1 x.devs.length m2 x.lks.length m3 x.ph x.co x.ck x.bo x.ba x.lb x.gd x.pr)[o]?))) (by kernel_rfl) (⟨(XP.step (Below.refl _ _).drew).C, fun o => cell_of_row _ _ o _ _ _ (by rw [heap_drew]; exact HG)⟩) (fun _ => ?_)
          rw [← heap_drew wc] at HZ HG
          replace K := K.drew
          replace XP := XP.drew
          replace OT := OT.below (Below.refl _ _).drew
          generalize wc.drew = v0 at K XP HZ HG OT ⊢
          refine wpAnyH_take (i := 0) (v := ?_) rfl (by kernel_rfl) (by kernel_rfl) (by kernel_rfl) (fun _ _ _ h => h) (Or.inl ⟨by rfl, ?_⟩) ⟨XP.C, fun o => cell_of_row _ _ o _ _ _ HG⟩ ?_
          rotate_left 1
          · intro w hSw
            obtain ⟨hs1, hs2⟩ := hSw
            go_simp
            try with_reducible rfl
          change wpAnyH _ _ _ _ _ _ _ (Act.put _ (some 30) _) _
          simp only [Act.put, List.setIfInBounds_toArray, List.set_cons_zero, List.set_cons_succ]
          refine wpAnyH_take (i := 2) (v := ?_) rfl (by kernel_rfl) (by kernel_rfl) (by kernel_rfl) (fun _ _ _ h => h) (Or.inl ⟨by rfl, ?_⟩) ⟨XP.C, fun o => cell_of_row _ _ o _ _ _ HG⟩ ?_
          rotate_left 1
          · intro w hSw
            obtain ⟨hs1, hs2⟩ := hSw
            go_simp
            try with_reducible rfl
          change wpAnyH _ _ _ _ _ _ _ (Act.put _ (some 32) _) _
          simp only [Act.put, List.setIfInBounds_toArray, List.set_cons_zero, List.set_cons_succ]
          refine wpAnyH_take (i := 4) (v := ?_) rfl (by kernel_rfl) (by kernel_rfl) (by kernel_rfl) (fun _ _ _ h => h) (Or.inl ⟨by rfl, ?_⟩) ⟨XP.C, fun o => cell_of_row _ _ o _ _ _ HG⟩ ?_
          rotate_left 1
          · intro w hSw
            obtain ⟨hs1, hs2⟩ := hSw
            go_simp
            try with_reducible rfl
          change wpAnyH _ _ _ _ _ _ _ (Act.put _ (some 34) _) _
          simp only [Act.put, List.setIfInBounds_toArray, List.set_cons_zero, List.set_cons_succ]
          refine wpAnyH_take (i := 5) (v := ?_) rfl (by kernel_rfl) (by kernel_rfl) (by kernel_rfl) (fun _ _ _ h => h) (Or.inl ⟨by rfl, ?_⟩) ⟨XP.C, fun o => cell_of_row _ _ o _ _ _ HG⟩ ?_
          rotate_left 1
          · intro w hSw
            obtain ⟨hs1, hs2⟩ := hSw
            go_simp
            try with_reducible rfl
          change wpAnyH _ _ _ _ _ _ _ (Act.put _ (some 35) _) _
          simp only [Act.put, List.setIfInBounds_toArray, List.set_cons_zero, List.set_cons_succ]
          refine wpAnyH_take (i := 6) (v := ?_) rfl (by kernel_rfl) (by kernel_rfl) (by kernel_rfl) (fun _ _ _ h => h) (Or.inl ⟨by rfl, ?_⟩) ⟨XP.C, fun o => cell_of_row _ _ o _ _ _ HG⟩ ?_
          rotate_left 1
          · intro w hSw
            obtain ⟨hs1, hs2⟩ := hSw
            go_simp
            try with_reducible rfl
          change wpAnyH _ _ _ _ _ _ _ (Act.put _ (some 36) _) _
          simp only [Act.put, List.setIfInBounds_toArray, List.set_cons_zero, List.set_cons_succ]
          refine wpAnyH_ready (rs := [1, 3]) (by kernel_rfl) (by simp) ?_
          refine AllReadyH.cons rfl (fun K' hK => ?_) ?_
          · skip
            go_simp
            go_at_call 59
            refine (ownPlan_any _ d v0 ((HP.out.below K (Nat.le_refl _)).more K.size)).mono ?_
            rintro e v1 ⟨q0, q1, q2, q3, rfl, Lp, hb⟩
            have AP : Apart q1 (.slice D3 x.lks.length m3) := by
              obtain ⟨z0, z1, z2, z3, hz, -, -, -, o3⟩ := OT.it
              injection hz with hz
              injection hz with hz
              simp only [List.cons.injEq, and_true, true_and] at hz
              obtain ⟨-, -, -, rfl⟩ := hz
              exact apart_later o3 Lp.o1
            replace Lp := Lp.base K.size
            obtain ⟨Q0, e0, rfl, -, -⟩ := Lp.o0.formR
            obtain ⟨Q1, e1, rfl, -, -⟩ := Lp.o1.formR
            obtain ⟨Q2, e2, rfl, -, -⟩ := Lp.o2.formR
            obtain ⟨Q3, e3, rfl, -, -⟩ := Lp.o3.formR
            try replace OE := OE.below hb
            replace K := K.trans (hb.mono K.size)
            replace XP := XP.step hb
            replace HZ := (hb.block _ (Array.getElem?_eq_some_iff.1 HZ).1).trans HZ
            replace HG := (hb.block _ (Array.getElem?_eq_some_iff.1 HG).1).trans HG
            replace OT := OT.below hb
            clear hb
            go_wp2_with fail
            refine hK.out _ _ ⟨XP.C, fun o => cell_of_row _ _ o _ _ _ HG⟩ (fun _ => ?_)
            clear hK K'
            try (change wpAnyH _ _ _ _ _ _ _ (Act.put _ (some 31) _) _; simp only [Act.put, List.setIfInBounds_toArray, List.set_cons_zero, List.set_cons_succ])
            refine wpAnyH_ready (rs := [3]) (by kernel_rfl) (by simp) ?_
            refine AllReadyH.cons rfl (fun K' hK => ?_) AllReadyH.nil
            go_simp
            have OE := OB.empty (w := v1) (B := w.heap.size) K.size
            have hE := (Array.getElem?_eq_some_iff.1 HG).1
            have hb := (Below.refl v1.heap.size v1).alloc (Nat.le_refl _) (.cells #[] 5)
            try replace Lp := Lp.below hb
            replace K := K.trans (hb.mono K.size)
            replace XP := XP.step hb
            replace HZ := (hb.block _ (Array.getElem?_eq_some_iff.1 HZ).1).trans HZ
            replace HG := (hb.block _ (Array.getElem?_eq_some_iff.1 HG).1).trans HG
            replace OT := OT.below hb
            clear hb
            obtain ⟨v2, hwv⟩ : ∃ W, v1.alloc (.cells #[] 5) = W := ⟨_, rfl⟩
            rw [hwv] at OE K XP HZ HG OT ⊢
            try rw [hwv] at Lp
            clear hwv
            obtain ⟨R8, hR8⟩ : ∃ R, v1.heap.size = R := ⟨_, rfl⟩
            rw [hR8] at OE hE ⊢
            clear hR8
            refine hK.out _ _ ⟨XP.C, fun o => cell_of_row _ _ o _ _ _ HG⟩ (fun _ => ?_)
            clear hK K'
            try (change wpAnyH _ _ _ _ _ _ _ (Act.put _ (some 33) _) _; simp only [Act.put, List.setIfInBounds_toArray, List.set_cons_zero, List.set_cons_succ])
            refine wpAnyH_ready (rs := [7]) (by kernel_rfl) (by simp) ?_
            refine AllReadyH.cons rfl (fun K' hK => ?_) AllReadyH.nil
            refine step_append_bt rfl _ _ rfl w.heap.size _ [] rfl OE _ bt rfl (HT.out.below K (Nat.le_refl _)) HTR.out (by simp only [List.length_nil]; omega) K.size ?_
            intro vb v3 Ob hgr
            replace Lp := Lp.grown OE hgr
            replace OT := OT.grown OE hgr
            replace XP := XP.grown hgr (fun r hr => by have h9 : R8 = r := (by injection hr); exact .inr ⟨by omega, by omega⟩)
            replace HZ := (hgr.block _ (Array.getElem?_eq_some_iff.1 HZ).1 (by intro h9; have h8 : w.heap.size + 1 = R8 := (by injection h9); omega)).trans HZ
            replace HG := (hgr.block _ (Array.getElem?_eq_some_iff.1 HG).1 (by intro h9; have h8 : g = R8 := (by injection h9); omega)).trans HG
            replace K := K.grown hgr K.size (fun r hr => by have h9 : R8 = r := (by injection hr); omega)
            rw [List.nil_append] at Ob
            obtain ⟨Ao, co, -, rfl, -⟩ := Ob.open_
            clear OE hgr
            refine hK.out _ _ ⟨XP.C, fun o => cell_of_row _ _ o _ _ _ HG⟩ (fun _ => ?_)
            clear hK K'
            try (change wpAnyH _ _ _ _ _ _ _ (Act.put _ (some 37) _) _; simp only [Act.put, List.setIfInBounds_toArray, List.set_cons_zero, List.set_cons_succ])
            refine wpAnyH_take (i := 8) (v := ?_) rfl (by kernel_rfl) (by kernel_rfl) (by kernel_rfl) (fun _ _ _ h => h) (Or.inl ⟨by rfl, ?_⟩) ⟨XP.C, fun o => cell_of_row _ _ o _ _ _ HG⟩ ?_
            rotate_left 1
            · intro w hSw
              obtain ⟨hs1, hs2⟩ := hSw
              go_simp
              try with_reducible rfl
            change wpAnyH _ _ _ _ _ _ _ (Act.put _ (some 38) _) _
            simp only [Act.put, List.setIfInBounds_toArray, List.set_cons_zero, List.set_cons_succ]
            refine wpAnyH_ready (rs := [9]) (by kernel_rfl) (by simp) ?_
            refine AllReadyH.cons rfl (fun K' hK => ?_) AllReadyH.nil
            rw [if_pos (by rfl)]
            refine wp_store_row 48 (.tmp 4) (.tmp 38) rfl (w.heap.size + 1) (agC (.slice Q0 d.n0 e0) (.slice Q1 d.n1 e1) (.slice Q2 d.n2 e2) (.slice Q3 d.n3 e3) d.l d.p d.t x.ph x.co x.ck x.bo x.ba x.lb (.slice D0 x.pods.length m0) (.slice D1 x.mnts.length m1) (.slice D2 x.devs.length m2) (.slice D3 x.lks.length m3) x.gd x.pr (.slice Ao bt.length co)) rfl rfl 48 _ HZ HJ.out rfl (by simp [Value.oneCell']) ?_
            have kk := keepsRow_ v3 (w.heap.size + 1) (agC (.slice Q0 d.n0 e0) (.slice Q1 d.n1 e1) (.slice Q2 d.n2 e2) (.slice Q3 d.n3 e3) d.l d.p d.t x.ph x.co x.ck x.bo x.ba x.lb (.slice D0 x.pods.length m0) (.slice D1 x.mnts.length m1) (.slice D2 x.devs.length m2) (.slice D3 x.lks.length m3) x.gd x.pr (.slice Ao bt.length co))
            have hh := HZ
            replace XP := XP.keeps kk (by rintro b rfl; omega) (by show ¬ w.heap.size = w.heap.size + 1; omega)
            replace HG := (setRow_other _ (w.heap.size + 1) g (agC (.slice Q0 d.n0 e0) (.slice Q1 d.n1 e1) (.slice Q2 d.n2 e2) (.slice Q3 d.n3 e3) d.l d.p d.t x.ph x.co x.ck x.bo x.ba x.lb (.slice D0 x.pods.length m0) (.slice D1 x.mnts.length m1) (.slice D2 x.devs.length m2) (.slice D3 x.lks.length m3) x.gd x.pr (.slice Ao bt.length co)) (by omega)).trans HG
            replace HZ := setRow_heap _ _ _ (agC (.slice Q0 d.n0 e0) (.slice Q1 d.n1 e1) (.slice Q2 d.n2 e2) (.slice Q3 d.n3 e3) d.l d.p d.t x.ph x.co x.ck x.bo x.ba x.lb (.slice D0 x.pods.length m0) (.slice D1 x.mnts.length m1) (.slice D2 x.devs.length m2) (.slice D3 x.lks.length m3) x.gd x.pr (.slice Ao bt.length co)) _ _ HZ
            replace K := belowRow_ K (B := w.heap.size + 1) (by omega) (agC (.slice Q0 d.n0 e0) (.slice Q1 d.n1 e1) (.slice Q2 d.n2 e2) (.slice Q3 d.n3 e3) d.l d.p d.t x.ph x.co x.ck x.bo x.ba x.lb (.slice D0 x.pods.length m0) (.slice D1 x.mnts.length m1) (.slice D2 x.devs.length m2) (.slice D3 x.lks.length m3) x.gd x.pr (.slice Ao bt.length co))
            replace Lp := Lp.keeps kk hh (by decide)
            replace OT := OT.keepsT kk hh (by decide)
            replace Ob := Ob.keepsT kk hh (by decide)
            clear kk hh
            generalize v3.setRow (w.heap.size + 1) (agC (.slice Q0 d.n0 e0) (.slice Q1 d.n1 e1) (.slice Q2 d.n2 e2) (.slice Q3 d.n3 e3) d.l d.p d.t x.ph x.co x.ck x.bo x.ba x.lb (.slice D0 x.pods.length m0) (.slice D1 x.mnts.length m1) (.slice D2 x.devs.length m2) (.slice D3 x.lks.length m3) x.gd x.pr (.slice Ao bt.length co)) = v4 at K XP HZ HG OT Lp Ob ⊢
            refine hK.out _ _ ⟨XP.C, fun o => cell_of_row _ _ o _ _ _ HG⟩ (fun _ => ?_)
            clear hK K'
            try (change wpAnyH _ _ _ _ _ _ _ (Act.put _ none _) _; simp only [Act.put])
            refine wpAnyH_ready (rs := [10]) (by kernel_rfl) (by simp) ?_
            refine AllReadyH.cons rfl (fun K' hK => ?_) AllReadyH.nil
            go_simp
            refine hK.out _ _ ⟨XP.C, fun o => cell_of_row _ _ o _ _ _ HG⟩ (fun _ => ?_)
            clear hK K'
            try (change wpAnyH _ _ _ _ _ _ _ (Act.put _ (some 5) _) _; simp only [Act.put, List.setIfInBounds_toArray, List.set_cons_zero, List.set_cons_succ])
            refine wpAnyH_done (by kernel_rfl) ?_ _
            refine NoPanic.normal ?_
            go_wp2_with fail
            rw [HY.out]
            exact bodyPost_ret (v := .tuple #[.agg (agC (.slice Q0 d.n0 e0) (.slice Q1 d.n1 e1) (.slice Q2 d.n2 e2) (.slice Q3 d.n3 e3) d.l d.p d.t x.ph x.co x.ck x.bo x.ba x.lb (.slice D0 x.pods.length m0) (.slice D1 x.mnts.length m1) (.slice D2 x.devs.length m2) (.slice D3 x.lks.length m3) x.gd x.pr (.slice Ao bt.length co)), .bool true]) (results_two_row Tryz.results21 _ _ _ _ _ _ _ _ rfl rfl HZ Tryz.underlying48 rfl HJ.out) rfl ⟨_, rfl, ⟨_, _, _, _, _, _, _, _, _, rfl, Lp, OT, Ob, AP⟩, K⟩
          refine AllReadyH.cons rfl (fun K' hK => ?_) AllReadyH.nil
          go_simp
          have OE := OB.empty (w := v0) (B := w.heap.size) K.size
          have hE := (Array.getElem?_eq_some_iff.1 HG).1
          have hb := (Below.refl v0.heap.size v0).alloc (Nat.le_refl _) (.cells #[] 5)
          try replace Lp := Lp.below hb
          replace K := K.trans (hb.mono K.size)
          replace XP := XP.step hb
          replace HZ := (hb.block _ (Array.getElem?_eq_some_iff.1 HZ).1).trans HZ
          replace HG := (hb.block _ (Array.getElem?_eq_some_iff.1 HG).1).trans HG
          replace OT := OT.below hb
          clear hb
          obtain ⟨v1, hwv⟩ : ∃ W, v0.alloc (.cells #[] 5) = W := ⟨_, rfl⟩
          rw [hwv] at OE K XP HZ HG OT ⊢
          try rw [hwv] at Lp
          clear hwv
          obtain ⟨R8, hR8⟩ : ∃ R, v0.heap.size = R := ⟨_, rfl⟩
          rw [hR8] at OE hE ⊢
          clear hR8
          refine hK.out _ _ ⟨XP.C, fun o => cell_of_row _ _ o _ _ _ HG⟩ (fun _ => ?_)
          clear hK K'
          try (change wpAnyH _ _ _ _ _ _ _ (Act.put _ (some 33) _) _; simp only [Act.put, List.setIfInBounds_toArray, List.set_cons_zero, List.set_cons_succ])
          refine wpAnyH_ready (rs := [1]) (by kernel_rfl) (by simp) ?_
          refine AllReadyH.cons rfl (fun K' hK => ?_) AllReadyH.nil
          go_simp
          go_at_call 59
          refine (ownPlan_any _ d v1 ((HP.out.below K (Nat.le_refl _)).more K.size)).mono ?_
          rintro e v2 ⟨q0, q1, q2, q3, rfl, Lp, hb⟩
          have AP : Apart q1 (.slice D3 x.lks.length m3) := by
            obtain ⟨z0, z1, z2, z3, hz, -, -, -, o3⟩ := OT.it
            injection hz with hz
            injection hz with hz
            simp only [List.cons.injEq, and_true, true_and] at hz
            obtain ⟨-, -, -, rfl⟩ := hz
            exact apart_later o3 Lp.o1
          replace Lp := Lp.base K.size
          obtain ⟨Q0, e0, rfl, -, -⟩ := Lp.o0.formR
          obtain ⟨Q1, e1, rfl, -, -⟩ := Lp.o1.formR
          obtain ⟨Q2, e2, rfl, -, -⟩ := Lp.o2.formR
          obtain ⟨Q3, e3, rfl, -, -⟩ := Lp.o3.formR
          try replace OE := OE.below hb
          replace K := K.trans (hb.mono K.size)
          replace XP := XP.step hb
          replace HZ := (hb.block _ (Array.getElem?_eq_some_iff.1 HZ).1).trans HZ
          replace HG := (hb.block _ (Array.getElem?_eq_some_iff.1 HG).1).trans HG
          replace OT := OT.below hb
          clear hb
          go_wp2_with fail
          refine hK.out _ _ ⟨XP.C, fun o => cell_of_row _ _ o _ _ _ HG⟩ (fun _ => ?_)
          clear hK K'
          try (change wpAnyH _ _ _ _ _ _ _ (Act.put _ (some 31) _) _; simp only [Act.put, List.setIfInBounds_toArray, List.set_cons_zero, List.set_cons_succ])
          refine wpAnyH_ready (rs := [7]) (by kernel_rfl) (by simp) ?_
          refine AllReadyH.cons rfl (fun K' hK => ?_) AllReadyH.nil
          refine step_append_bt rfl _ _ rfl w.heap.size _ [] rfl OE _ bt rfl (HT.out.below K (Nat.le_refl _)) HTR.out (by simp only [List.length_nil]; omega) K.size ?_
          intro vb v3 Ob hgr
          replace Lp := Lp.grown OE hgr
          replace OT := OT.grown OE hgr
          replace XP := XP.grown hgr (fun r hr => by have h9 : R8 = r := (by injection hr); exact .inr ⟨by omega, by omega⟩)
          replace HZ := (hgr.block _ (Array.getElem?_eq_some_iff.1 HZ).1 (by intro h9; have h8 : w.heap.size + 1 = R8 := (by injection h9); omega)).trans HZ
          replace HG := (hgr.block _ (Array.getElem?_eq_some_iff.1 HG).1 (by intro h9; have h8 : g = R8 := (by injection h9); omega)).trans HG
          replace K := K.grown hgr K.size (fun r hr => by have h9 : R8 = r := (by injection hr); omega)
          rw [List.nil_append] at Ob
          obtain ⟨Ao, co, -, rfl, -⟩ := Ob.open_
          clear OE hgr
          refine hK.out _ _ ⟨XP.C, fun o => cell_of_row _ _ o _ _ _ HG⟩ (fun _ => ?_)
          clear hK K'
          try (change wpAnyH _ _ _ _ _ _ _ (Act.put _ (some 37) _) _; simp only [Act.put, List.setIfInBounds_toArray, List.set_cons_zero, List.set_cons_succ])
          refine wpAnyH_take (i := 8) (v := ?_) rfl (by kernel_rfl) (by kernel_rfl) (by kernel_rfl) (fun _ _ _ h => h) (Or.inl ⟨by rfl, ?_⟩) ⟨XP.C, fun o => cell_of_row _ _ o _ _ _ HG⟩ ?_
          rotate_left 1
          · intro w hSw
            obtain ⟨hs1, hs2⟩ := hSw
            go_simp
            try with_reducible rfl
          change wpAnyH _ _ _ _ _ _ _ (Act.put _ (some 38) _) _
          simp only [Act.put, List.setIfInBounds_toArray, List.set_cons_zero, List.set_cons_succ]
          refine wpAnyH_ready (rs := [9]) (by kernel_rfl) (by simp) ?_
          refine AllReadyH.cons rfl (fun K' hK => ?_) AllReadyH.nil
          rw [if_pos (by rfl)]
          refine wp_store_row 48 (.tmp 4) (.tmp 38) rfl (w.heap.size + 1) (agC (.slice Q0 d.n0 e0) (.slice Q1 d.n1 e1) (.slice Q2 d.n2 e2) (.slice Q3 d.n3 e3) d.l d.p d.t x.ph x.co x.ck x.bo x.ba x.lb (.slice D0 x.pods.length m0) (.slice D1 x.mnts.length m1) (.slice D2 x.devs.length m2) (.slice D3 x.lks.length m3) x.gd x.pr (.slice Ao bt.length co)) rfl rfl 48 _ HZ HJ.out rfl (by simp [Value.oneCell']) ?_
          have kk := keepsRow_ v3 (w.heap.size + 1) (agC (.slice Q0 d.n0 e0) (.slice Q1 d.n1 e1) (.slice Q2 d.n2 e2) (.slice Q3 d.n3 e3) d.l d.p d.t x.ph x.co x.ck x.bo x.ba x.lb (.slice D0 x.pods.length m0) (.slice D1 x.mnts.length m1) (.slice D2 x.devs.length m2) (.slice D3 x.lks.length m3) x.gd x.pr (.slice Ao bt.length co))
          have hh := HZ
          replace XP := XP.keeps kk (by rintro b rfl; omega) (by show ¬ w.heap.size = w.heap.size + 1; omega)
          replace HG := (setRow_other _ (w.heap.size + 1) g (agC (.slice Q0 d.n0 e0) (.slice Q1 d.n1 e1) (.slice Q2 d.n2 e2) (.slice Q3 d.n3 e3) d.l d.p d.t x.ph x.co x.ck x.bo x.ba x.lb (.slice D0 x.pods.length m0) (.slice D1 x.mnts.length m1) (.slice D2 x.devs.length m2) (.slice D3 x.lks.length m3) x.gd x.pr (.slice Ao bt.length co)) (by omega)).trans HG
          replace HZ := setRow_heap _ _ _ (agC (.slice Q0 d.n0 e0) (.slice Q1 d.n1 e1) (.slice Q2 d.n2 e2) (.slice Q3 d.n3 e3) d.l d.p d.t x.ph x.co x.ck x.bo x.ba x.lb (.slice D0 x.pods.length m0) (.slice D1 x.mnts.length m1) (.slice D2 x.devs.length m2) (.slice D3 x.lks.length m3) x.gd x.pr (.slice Ao bt.length co)) _ _ HZ
          replace K := belowRow_ K (B := w.heap.size + 1) (by omega) (agC (.slice Q0 d.n0 e0) (.slice Q1 d.n1 e1) (.slice Q2 d.n2 e2) (.slice Q3 d.n3 e3) d.l d.p d.t x.ph x.co x.ck x.bo x.ba x.lb (.slice D0 x.pods.length m0) (.slice D1 x.mnts.length m1) (.slice D2 x.devs.length m2) (.slice D3 x.lks.length m3) x.gd x.pr (.slice Ao bt.length co))
          replace Lp := Lp.keeps kk hh (by decide)
          replace OT := OT.keepsT kk hh (by decide)
          replace Ob := Ob.keepsT kk hh (by decide)
          clear kk hh
          generalize v3.setRow (w.heap.size + 1) (agC (.slice Q0 d.n0 e0) (.slice Q1 d.n1 e1) (.slice Q2 d.n2 e2) (.slice Q3 d.n3 e3) d.l d.p d.t x.ph x.co x.ck x.bo x.ba x.lb (.slice D0 x.pods.length m0) (.slice D1 x.mnts.length m1) (.slice D2 x.devs.length m2) (.slice D3 x.lks.length m3) x.gd x.pr (.slice Ao bt.length co)) = v4 at K XP HZ HG OT Lp Ob ⊢
          refine hK.out _ _ ⟨XP.C, fun o => cell_of_row _ _ o _ _ _ HG⟩ (fun _ => ?_)
          clear hK K'
          try (change wpAnyH _ _ _ _ _ _ _ (Act.put _ none _) _; simp only [Act.put])
          refine wpAnyH_ready (rs := [10]) (by kernel_rfl) (by simp) ?_
          refine AllReadyH.cons rfl (fun K' hK => ?_) AllReadyH.nil
          go_simp
          refine hK.out _ _ ⟨XP.C, fun o => cell_of_row _ _ o _ _ _ HG⟩ (fun _ => ?_)
          clear hK K'
          try (change wpAnyH _ _ _ _ _ _ _ (Act.put _ (some 5) _) _; simp only [Act.put, List.setIfInBounds_toArray, List.set_cons_zero, List.set_cons_succ])
          refine wpAnyH_done (by kernel_rfl) ?_ _
          refine NoPanic.normal ?_
          go_wp2_with fail
          rw [HY.out]
          exact bodyPost_ret (v := .tuple #[.agg (agC (.slice Q0 d.n0 e0) (.slice Q1 d.n1 e1) (.slice Q2 d.n2 e2) (.slice Q3 d.n3 e3) d.l d.p d.t x.ph x.co x.ck x.bo x.ba x.lb (.slice D0 x.pods.length m0) (.slice D1 x.mnts.length m1) (.slice D2 x.devs.length m2) (.slice D3 x.lks.length m3) x.gd x.pr (.slice Ao bt.length co)), .bool true]) (results_two_row Tryz.results21 _ _ _ _ _ _ _ _ rfl rfl HZ Tryz.underlying48 rfl HJ.out) rfl ⟨_, rfl, ⟨_, _, _, _, _, _, _, _, _, rfl, Lp, OT, Ob, AP⟩, K⟩
end Go.Proofs.YtkefbmbjkijilaaGreatDoor
