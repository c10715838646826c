/-
  The model's copy of an agent.
-/
import Derived.Test.YtmgckdmglnmnnaaGreatDoorMZ11
import Derived.Laws.Tables
import Derived.Laws.CopyOwn
/- Ze -/
set_option linter.unusedVariables false
namespace Go.Proofs.YtmgckdmglnmnnaaGreatDoor
open Go.RowKit

theorem keeps_setRow (W : World) (g : Nat) (cs : Array Value) : Keeps (· = g) W (W.setRow g cs) := ⟨rfl, rfl, rfl, by simp, fun b hb hn => setRow_other W g b cs hn⟩
theorem row_apart {w : World} {B e k n g T : Nat} {cs : Array Value} {v : Value} {xs : List Value} (h : w.ownsRow B e k v n xs) (hg : w.heap[g]? = some (.cells cs T (0, 0))) (hne : T ≠ e) : ∀ r, v.ownBlock = some r → ¬ r = g := by
  rintro r hr rfl
  rcases h.2 with ⟨rfl, _⟩ | ⟨g1, c1, cur1, rfl, _, hh1, _⟩
  · cases hr
  · obtain rfl : g1 = r := by simpa [Value.ownBlock] using hr
    rw [hg] at hh1
    injection hh1 with hh1
    injection hh1 with _ h2 _
    exact hne h2
theorem OwnSt.keepsT {w w' : World} {B g T : Nat} {cs : Array Value} {v : Value} {s : StD} (h : OwnSt w B v s) (kk : Keeps (· = g) w w') (hg : w.heap[g]? = some (.cells cs T (0, 0))) (hT : T ≠ 46 ∧ T ≠ 60 ∧ T ≠ 4 ∧ T ≠ 2) : OwnSt w' B v s := by
  obtain ⟨v0, v1, v2, v3, hv, h0, h1, h2, h3⟩ := h.it
  exact ⟨v0, v1, v2, v3, hv, ownsRow_keeps h0 kk (row_apart h0 hg hT.1), ownsRow_keeps h1 kk (row_apart h1 hg hT.2.1), ownsRow_keeps h2 kk (row_apart h2 hg hT.2.2.1), ownsRow_keeps h3 kk (row_apart h3 hg hT.2.2.2)⟩
theorem OB.keepsT {w w' : World} {B g T : Nat} {cs : Array Value} {v : Value} {L : List Nat} (h : OB w B v L) (kk : Keeps (· = g) w w') (hg : w.heap[g]? = some (.cells cs T (0, 0))) (hT : T ≠ 5) : OB w' B v L := ⟨ownsRow_keeps h.own kk (row_apart h.own hg hT), h.small⟩
/-- What makes an agent of the call's own answers. -/
def MadeAg (w : World) (d : PlanD) (s : StD) (st : List Nat) (e : Ending) (w' : World) : Prop := ∃ v, e = .returned v ∧ OwnAg w' w.heap.size v d s st ∧ Below w.heap.size w w'

set_option maxRecDepth 100000 in
set_option maxHeartbeats 8000000 in
theorem l15Copy_any (v : Value) (d : PlanD) (s : StD) (st : List Nat) (w : World) (h : IsAg w w.heap.size v d s st) (hst : st.length ≤ 8388608) : Calls Tryz.prog 83 #[v] w (MadeAg w d s st) := by
  obtain ⟨p0, p1, p2, p3, s0, s1, s2, s3, b, rfl, hp, hs, hb, hr⟩ := h.it
  have HP := Lib.hid hp
  have HS := Lib.hid hs
  have HB := Lib.hid hb
  have HR := Lib.hid hr
  have HI : Hid ((Tryz.prog.info? 73).map (·.size) = some 20) := Lib.hid (by kernel_rfl)
  have T0 := Two.start w (agC p0 p1 p2 p3 d.l d.p d.t s.ph s.co s.ck s.bo s.ba s.lb s0 s1 s2 s3 s.gd s.pr b) (agC (.slice none 0 0) (.slice none 0 0) (.slice none 0 0) (.slice none 0 0) 0 0 0 0 false 0 0 0 0 (.slice none 0 0) (.slice none 0 0) (.slice none 0 0) (.slice none 0 0) 0 0 (.slice none 0 0)) 73 73
  have HH := heap_alloc2_new w (.cells (agC p0 p1 p2 p3 d.l d.p d.t s.ph s.co s.ck s.bo s.ba s.lb s0 s1 s2 s3 s.gd s.pr b) 73) (.cells (agC (.slice none 0 0) (.slice none 0 0) (.slice none 0 0) (.slice none 0 0) 0 0 0 0 false 0 0 0 0 (.slice none 0 0) (.slice none 0 0) (.slice none 0 0) (.slice none 0 0) 0 0 (.slice none 0 0)) 73)
  clear h hp hs hb hr
  go_enter Tryz.func83, Tryz.ntmps83
  go_upto_region 1 with fail
  generalize (w.alloc (.cells (agC p0 p1 p2 p3 d.l d.p d.t s.ph s.co s.ck s.bo s.ba s.lb s0 s1 s2 s3 s.gd s.pr b) 73)).alloc (.cells (agC (.slice none 0 0) (.slice none 0 0) (.slice none 0 0) (.slice none 0 0) 0 0 0 0 false 0 0 0 0 (.slice none 0 0) (.slice none 0 0) (.slice none 0 0) (.slice none 0 0) 0 0 (.slice none 0 0)) 73) = w1 at T0 HH ⊢
  refine wp_region_noPanic ?_
  refine wp_region_held_drew (S := (fun W => ∀ o, W.cell? ⟨w.heap.size, o, none⟩ = (agC p0 p1 p2 p3 d.l d.p d.t s.ph s.co s.ck s.bo s.ba s.lb s0 s1 s2 s3 s.gd s.pr b)[o]?)) (by kernel_rfl) ((T0.step (Below.refl _ _).drew).A.C) (fun hS => ?_)
  replace T0 := T0.step (Below.refl _ _).drew
  rw [← heap_drew w1] at HH
  generalize w1.drew = w0 at T0 HH hS ⊢
  have K : Below w0.heap.size w0 w0 := Below.refl _ _
  have S0 := T0.A.C
  have hw0 := T0.A.z
  have hw1 := T0.O.z
  refine wpAnyH_take (i := 0) (v := ?_) rfl (by kernel_rfl) (by kernel_rfl) (by kernel_rfl) (fun _ _ _ h => h) (Or.inl ⟨by rfl, ?_⟩) hS ?_
  rotate_left 1
  · intro w hSw
    (try dsimp only at hSw)
    go_simp
    try with_reducible rfl
  change wpAnyH _ _ _ _ _ _ _ (Act.put _ (some 3) _) _
  dsimp only [Act.put]
  refine wpAnyH_take (i := 1) (v := ?_) rfl (by kernel_rfl) (by kernel_rfl) (by kernel_rfl) (fun _ _ _ h => h) (Or.inl ⟨by rfl, ?_⟩) hS ?_
  rotate_left 1
  · intro w hSw
    (try dsimp only at hSw)
    go_simp
    try with_reducible rfl
  change wpAnyH _ _ _ _ _ _ _ (Act.put _ (some 4) _) _
  dsimp only [Act.put]
  refine wpAnyH_take (i := 3) (v := ?_) rfl (by kernel_rfl) (by kernel_rfl) (by kernel_rfl) (fun _ _ _ h => h) (Or.inl ⟨by rfl, ?_⟩) hS ?_
  rotate_left 1
  · intro w hSw
    (try dsimp only at hSw)
    go_simp
    try with_reducible rfl
  change wpAnyH _ _ _ _ _ _ _ (Act.put _ (some 6) _) _
  dsimp only [Act.put]
  refine wpAnyH_take (i := 4) (v := ?_) rfl (by kernel_rfl) (by kernel_rfl) (by kernel_rfl) (fun _ _ _ h => h) (Or.inl ⟨by rfl, ?_⟩) hS ?_
  rotate_left 1
  · intro w hSw
    (try dsimp only at hSw)
    go_simp
    try with_reducible rfl
  change wpAnyH _ _ _ _ _ _ _ (Act.put _ (some 7) _) _
  dsimp only [Act.put]
  refine wpAnyH_take (i := 7) (v := ?_) rfl (by kernel_rfl) (by kernel_rfl) (by kernel_rfl) (fun _ _ _ h => h) (Or.inl ⟨by rfl, ?_⟩) hS ?_
  rotate_left 1
  · intro w hSw
    (try dsimp only at hSw)
    go_simp
    try with_reducible rfl
  change wpAnyH _ _ _ _ _ _ _ (Act.put _ (some 10) _) _
  dsimp only [Act.put]
  refine wpAnyH_take (i := 8) (v := ?_) rfl (by kernel_rfl) (by kernel_rfl) (by kernel_rfl) (fun _ _ _ h => h) (Or.inl ⟨by rfl, ?_⟩) hS ?_
  rotate_left 1
  · intro w hSw
    (try dsimp only at hSw)
    go_simp
    try with_reducible rfl
  change wpAnyH _ _ _ _ _ _ _ (Act.put _ (some 11) _) _
  dsimp only [Act.put]
  refine wpAnyH_ready (rs := [2, 6]) (by kernel_rfl) (by simp) ?_
  refine AllReadyH.cons rfl (fun K' hK => ?_) ?_
  · skip
    go_simp
    go_at_call 80
    first
    | (with_reducible refine calls_from (fun W' => From K W' ∧ OB W' w.heap.size (.slice (some ⟨(endOf K).heap.size, 0, none⟩) 0 0) []) ⟨From.alloc K _, OB.empty (T0.step K).A.K.size⟩ ?_
       rintro W' ⟨hW, Eb⟩
       have hE := K.size)
    | (with_reducible refine calls_from (From K) (From.same K) ?_
       intro W' hW
       try replace Eb := Eb.below hW.it)
    have TW := T0.step hW.all
    try replace Lp := Lp.below hW.it
    try replace Os := Os.below hW.it
    try replace Ob := Ob.below hW.it
    refine (l15PlanCopy_any _ d W' ((HP.out.below TW.A.K (Nat.le_refl _)).more TW.A.K.size)).mono ?_
    rintro e wn ⟨q0, q1, q2, q3, rfl, Lp_, hb⟩
    have Lp := Lp_.base TW.A.K.size
    obtain ⟨Q0, e0, rfl, -, -⟩ := Lp_.o0.formR
    obtain ⟨Q1, e1, rfl, -, -⟩ := Lp_.o1.formR
    obtain ⟨Q2, e2, rfl, -, -⟩ := Lp_.o2.formR
    obtain ⟨Q3, e3, rfl, -, -⟩ := Lp_.o3.formR
    clear Lp_
    try replace Eb := Eb.below hb
    try replace Lp := Lp.below hb
    try replace Os := Os.below hb
    replace K := hW.all.trans (hb.mono hW.all.size)
    clear hb hW TW
    go_wp2_with fail
    refine hK.out _ _ (fun o => (Below.cell (p := ⟨w.heap.size, o, none⟩) K hw0).trans (S0 o)) (fun hS => ?_)
    clear hK K'
    skip
    refine wpAnyH_ready (rs := [5, 6]) (by kernel_rfl) (by simp) ?_
    refine AllReadyH.cons rfl (fun K' hK => ?_) ?_
    · skip
      go_simp
      go_at_call 93
      first
      | (with_reducible refine calls_from (fun W' => From K W' ∧ OB W' w.heap.size (.slice (some ⟨(endOf K).heap.size, 0, none⟩) 0 0) []) ⟨From.alloc K _, OB.empty (T0.step K).A.K.size⟩ ?_
         rintro W' ⟨hW, Eb⟩
         have hE := K.size)
      | (with_reducible refine calls_from (From K) (From.same K) ?_
         intro W' hW
         try replace Eb := Eb.below hW.it)
      have TW := T0.step hW.all
      try replace Lp := Lp.below hW.it
      try replace Os := Os.below hW.it
      try replace Ob := Ob.below hW.it
      refine (l5Copy_any _ s W' ((HS.out.below TW.A.K (Nat.le_refl _)).more TW.A.K.size)).mono ?_
      rintro e wn ⟨v5, rfl, Os_, hb⟩
      have Os := Os_.base TW.A.K.size
      obtain ⟨y0, y1, y2, y3, rfl, z0, z1, z2, z3⟩ := Os_.it
      have AP := apart_of Lp.o1 z3
      obtain ⟨Y0, f0, rfl, -⟩ := open_rowR z0
      obtain ⟨Y1, f1, rfl, -⟩ := open_rowR z1
      obtain ⟨Y2, f2, rfl, -⟩ := open_rowR z2
      obtain ⟨Y3, f3, rfl, -⟩ := open_rowR z3
      clear Os_ z0 z1 z2 z3
      try replace Eb := Eb.below hb
      try replace Lp := Lp.below hb
      try replace Os := Os.below hb
      replace K := hW.all.trans (hb.mono hW.all.size)
      clear hb hW TW
      go_wp2_with fail
      refine hK.out _ _ (fun o => (Below.cell (p := ⟨w.heap.size, o, none⟩) K hw0).trans (S0 o)) (fun hS => ?_)
      clear hK K'
      skip
      refine wpAnyH_ready (rs := [6]) (by kernel_rfl) (by simp) ?_
      refine AllReadyH.cons rfl (fun K' hK => ?_) ?_
      · skip
        go_simp
        have KA := (From.alloc K (.cells #[] 5)).all
        refine hK.out _ _ (fun o => (Below.cell (p := ⟨w.heap.size, o, none⟩) KA hw0).trans (S0 o)) (fun hS => ?_)
        clear hK K'
        skip
        clear KA
        refine wpAnyH_ready (rs := [9]) (by kernel_rfl) (by simp) ?_
        refine AllReadyH.cons rfl (fun K' hK => ?_) ?_
        · skip
          first
          | (with_reducible refine step_from (fun W' => From K W' ∧ OB W' w.heap.size (.slice (some ⟨(endOf K).heap.size, 0, none⟩) 0 0) []) ⟨From.alloc K _, OB.empty (T0.step K).A.K.size⟩ ?_
             rintro W' ⟨hW, Eb⟩
             have hE := K.size)
          | (with_reducible refine step_from (From K) (From.same K) ?_
             intro W' hW
             try replace Eb := Eb.below hW.it)
          have TW := T0.step hW.all
          try replace Lp := Lp.below hW.it
          try replace Os := Os.below hW.it
          try replace Ob := Ob.below hW.it
          refine step_append_bt rfl _ _ rfl w.heap.size _ [] rfl Eb b st rfl (HB.out.below TW.A.K (Nat.le_refl _)) HR.out (by simpa using hst) TW.A.K.size ?_
          intro vb wn Ob hgr
          replace Lp := Lp.grown Eb hgr
          replace Os := Os.grown Eb hgr
          replace K := hW.all.grown hgr hW.all.size (fun r hr => Nat.le_trans hE (Nat.le_of_eq (Option.some.inj hr)))
          obtain ⟨Ab, cb, -, rfl, -⟩ := Ob.open_
          clear Eb hgr hE hW TW
          refine hK.out _ _ (fun o => (Below.cell (p := ⟨w.heap.size, o, none⟩) K hw0).trans (S0 o)) (fun hS => ?_)
          clear hK K'
          change wpAnyH _ _ _ _ _ _ _ (Act.put _ (some 12) _) _
          dsimp only [Act.put]
          refine wpAnyH_take (i := 10) (v := ?_) rfl (by kernel_rfl) (by kernel_rfl) (by kernel_rfl) (fun _ _ _ h => h) (Or.inl ⟨by rfl, ?_⟩) hS ?_
          rotate_left 1
          · intro w hSw
            (try dsimp only at hSw)
            go_simp
            try with_reducible rfl
          change wpAnyH _ _ _ _ _ _ _ (Act.put _ (some 13) _) _
          dsimp only [Act.put]
          refine wpAnyH_ready (rs := [11]) (by kernel_rfl) (by simp) ?_
          refine AllReadyH.cons rfl (fun K' hK => ?_) AllReadyH.nil
          rw [if_pos (by rfl)]
          have hh := (K.block _ hw1).trans HH
          refine wp_store_row 73 (.tmp 2) (.tmp 13) rfl (w.heap.size + 1) (agC (.slice Q0 d.n0 e0) (.slice Q1 d.n1 e1) (.slice Q2 d.n2 e2) (.slice Q3 d.n3 e3) d.l d.p d.t s.ph s.co s.ck s.bo s.ba s.lb (.slice Y0 s.pods.length f0) (.slice Y1 s.mnts.length f1) (.slice Y2 s.devs.length f2) (.slice Y3 s.lks.length f3) s.gd s.pr (.slice Ab st.length cb)) rfl rfl 73 _ hh HI.out rfl (by simp [Value.oneCell']) ?_
          have KS : Keeps (· = w.heap.size + 1) wn (wn.setRow (w.heap.size + 1) (agC (.slice Q0 d.n0 e0) (.slice Q1 d.n1 e1) (.slice Q2 d.n2 e2) (.slice Q3 d.n3 e3) d.l d.p d.t s.ph s.co s.ck s.bo s.ba s.lb (.slice Y0 s.pods.length f0) (.slice Y1 s.mnts.length f1) (.slice Y2 s.devs.length f2) (.slice Y3 s.lks.length f3) s.gd s.pr (.slice Ab st.length cb))) := keeps_setRow ..
          refine hK.out _ _ (fun o => (KS.cell (p := ⟨w.heap.size, o, none⟩) (Nat.lt_of_lt_of_le hw0 K.size) (Nat.ne_of_lt (Nat.lt_succ_self _))).trans ((Below.cell (p := ⟨w.heap.size, o, none⟩) K hw0).trans (S0 o))) (fun hS => ?_)
          clear hK K'
          refine wpAnyH_done (by kernel_rfl) ?_ _
          refine NoPanic.normal ?_
          go_wp2_with fail
          exact bodyPost_ret (v := .agg (agC (.slice Q0 d.n0 e0) (.slice Q1 d.n1 e1) (.slice Q2 d.n2 e2) (.slice Q3 d.n3 e3) d.l d.p d.t s.ph s.co s.ck s.bo s.ba s.lb (.slice Y0 s.pods.length f0) (.slice Y1 s.mnts.length f1) (.slice Y2 s.devs.length f2) (.slice Y3 s.lks.length f3) s.gd s.pr (.slice Ab st.length cb))) (results_cell_row Tryz.results83 _ _ _ _ _ _ _ rfl (setRow_heap wn _ _ _ _ _ hh) Tryz.underlying73 rfl HI.out) rfl ⟨_, rfl, ⟨_, _, _, _, _, _, _, _, _, rfl, Lp.keeps KS hh (by decide), Os.keepsT KS hh (by decide), Ob.keepsT KS hh (by decide), AP⟩, below_setRow (T0.step K).A.K (Nat.le_succ _) _⟩
        exact AllReadyH.nil
      exact AllReadyH.nil
    refine AllReadyH.cons rfl (fun K' hK => ?_) ?_
    · skip
      go_simp
      have KA := (From.alloc K (.cells #[] 5)).all
      refine hK.out _ _ (fun o => (Below.cell (p := ⟨w.heap.size, o, none⟩) KA hw0).trans (S0 o)) (fun hS => ?_)
      clear hK K'
      skip
      clear KA
      refine wpAnyH_ready (rs := [5]) (by kernel_rfl) (by simp) ?_
      refine AllReadyH.cons rfl (fun K' hK => ?_) ?_
      · skip
        go_simp
        go_at_call 93
        first
        | (with_reducible refine calls_from (fun W' => From K W' ∧ OB W' w.heap.size (.slice (some ⟨(endOf K).heap.size, 0, none⟩) 0 0) []) ⟨From.alloc K _, OB.empty (T0.step K).A.K.size⟩ ?_
           rintro W' ⟨hW, Eb⟩
           have hE := K.size)
        | (with_reducible refine calls_from (From K) (From.same K) ?_
           intro W' hW
           try replace Eb := Eb.below hW.it)
        have TW := T0.step hW.all
        try replace Lp := Lp.below hW.it
        try replace Os := Os.below hW.it
        try replace Ob := Ob.below hW.it
        refine (l5Copy_any _ s W' ((HS.out.below TW.A.K (Nat.le_refl _)).more TW.A.K.size)).mono ?_
        rintro e wn ⟨v5, rfl, Os_, hb⟩
        have Os := Os_.base TW.A.K.size
        obtain ⟨y0, y1, y2, y3, rfl, z0, z1, z2, z3⟩ := Os_.it
        have AP := apart_of Lp.o1 z3
        obtain ⟨Y0, f0, rfl, -⟩ := open_rowR z0
        obtain ⟨Y1, f1, rfl, -⟩ := open_rowR z1
        obtain ⟨Y2, f2, rfl, -⟩ := open_rowR z2
        obtain ⟨Y3, f3, rfl, -⟩ := open_rowR z3
        clear Os_ z0 z1 z2 z3
        try replace Eb := Eb.below hb
        try replace Lp := Lp.below hb
        try replace Os := Os.below hb
        replace K := hW.all.trans (hb.mono hW.all.size)
        clear hb hW TW
        go_wp2_with fail
        refine hK.out _ _ (fun o => (Below.cell (p := ⟨w.heap.size, o, none⟩) K hw0).trans (S0 o)) (fun hS => ?_)
        clear hK K'
        skip
        refine wpAnyH_ready (rs := [9]) (by kernel_rfl) (by simp) ?_
        refine AllReadyH.cons rfl (fun K' hK => ?_) ?_
        · skip
          first
          | (with_reducible refine step_from (fun W' => From K W' ∧ OB W' w.heap.size (.slice (some ⟨(endOf K).heap.size, 0, none⟩) 0 0) []) ⟨From.alloc K _, OB.empty (T0.step K).A.K.size⟩ ?_
             rintro W' ⟨hW, Eb⟩
             have hE := K.size)
          | (with_reducible refine step_from (From K) (From.same K) ?_
             intro W' hW
             try replace Eb := Eb.below hW.it)
          have TW := T0.step hW.all
          try replace Lp := Lp.below hW.it
          try replace Os := Os.below hW.it
          try replace Ob := Ob.below hW.it
          refine step_append_bt rfl _ _ rfl w.heap.size _ [] rfl Eb b st rfl (HB.out.below TW.A.K (Nat.le_refl _)) HR.out (by simpa using hst) TW.A.K.size ?_
          intro vb wn Ob hgr
          replace Lp := Lp.grown Eb hgr
          replace Os := Os.grown Eb hgr
          replace K := hW.all.grown hgr hW.all.size (fun r hr => Nat.le_trans hE (Nat.le_of_eq (Option.some.inj hr)))
          obtain ⟨Ab, cb, -, rfl, -⟩ := Ob.open_
          clear Eb hgr hE hW TW
          refine hK.out _ _ (fun o => (Below.cell (p := ⟨w.heap.size, o, none⟩) K hw0).trans (S0 o)) (fun hS => ?_)
          clear hK K'
          change wpAnyH _ _ _ _ _ _ _ (Act.put _ (some 12) _) _
          dsimp only [Act.put]
          refine wpAnyH_take (i := 10) (v := ?_) rfl (by kernel_rfl) (by kernel_rfl) (by kernel_rfl) (fun _ _ _ h => h) (Or.inl ⟨by rfl, ?_⟩) hS ?_
          rotate_left 1
          · intro w hSw
            (try dsimp only at hSw)
            go_simp
            try with_reducible rfl
          change wpAnyH _ _ _ _ _ _ _ (Act.put _ (some 13) _) _
          dsimp only [Act.put]
          refine wpAnyH_ready (rs := [11]) (by kernel_rfl) (by simp) ?_
          refine AllReadyH.cons rfl (fun K' hK => ?_) AllReadyH.nil
          rw [if_pos (by rfl)]
          have hh := (K.block _ hw1).trans HH
          refine wp_store_row 73 (.tmp 2) (.tmp 13) rfl (w.heap.size + 1) (agC (.slice Q0 d.n0 e0) (.slice Q1 d.n1 e1) (.slice Q2 d.n2 e2) (.slice Q3 d.n3 e3) d.l d.p d.t s.ph s.co s.ck s.bo s.ba s.lb (.slice Y0 s.pods.length f0) (.slice Y1 s.mnts.length f1) (.slice Y2 s.devs.length f2) (.slice Y3 s.lks.length f3) s.gd s.pr (.slice Ab st.length cb)) rfl rfl 73 _ hh HI.out rfl (by simp [Value.oneCell']) ?_
          have KS : Keeps (· = w.heap.size + 1) wn (wn.setRow (w.heap.size + 1) (agC (.slice Q0 d.n0 e0) (.slice Q1 d.n1 e1) (.slice Q2 d.n2 e2) (.slice Q3 d.n3 e3) d.l d.p d.t s.ph s.co s.ck s.bo s.ba s.lb (.slice Y0 s.pods.length f0) (.slice Y1 s.mnts.length f1) (.slice Y2 s.devs.length f2) (.slice Y3 s.lks.length f3) s.gd s.pr (.slice Ab st.length cb))) := keeps_setRow ..
          refine hK.out _ _ (fun o => (KS.cell (p := ⟨w.heap.size, o, none⟩) (Nat.lt_of_lt_of_le hw0 K.size) (Nat.ne_of_lt (Nat.lt_succ_self _))).trans ((Below.cell (p := ⟨w.heap.size, o, none⟩) K hw0).trans (S0 o))) (fun hS => ?_)
          clear hK K'
          refine wpAnyH_done (by kernel_rfl) ?_ _
          refine NoPanic.normal ?_
          go_wp2_with fail
          exact bodyPost_ret (v := .agg (agC (.slice Q0 d.n0 e0) (.slice Q1 d.n1 e1) (.slice Q2 d.n2 e2) (.slice Q3 d.n3 e3) d.l d.p d.t s.ph s.co s.ck s.bo s.ba s.lb (.slice Y0 s.pods.length f0) (.slice Y1 s.mnts.length f1) (.slice Y2 s.devs.length f2) (.slice Y3 s.lks.length f3) s.gd s.pr (.slice Ab st.length cb))) (results_cell_row Tryz.results83 _ _ _ _ _ _ _ rfl (setRow_heap wn _ _ _ _ _ hh) Tryz.underlying73 rfl HI.out) rfl ⟨_, rfl, ⟨_, _, _, _, _, _, _, _, _, rfl, Lp.keeps KS hh (by decide), Os.keepsT KS hh (by decide), Ob.keepsT KS hh (by decide), AP⟩, below_setRow (T0.step K).A.K (Nat.le_succ _) _⟩
        exact AllReadyH.nil
      exact AllReadyH.nil
    exact AllReadyH.nil
  refine AllReadyH.cons rfl (fun K' hK => ?_) ?_
  · skip
    go_simp
    have KA := (From.alloc K (.cells #[] 5)).all
    refine hK.out _ _ (fun o => (Below.cell (p := ⟨w.heap.size, o, none⟩) KA hw0).trans (S0 o)) (fun hS => ?_)
    clear hK K'
    skip
    clear KA
    refine wpAnyH_ready (rs := [2]) (by kernel_rfl) (by simp) ?_
    refine AllReadyH.cons rfl (fun K' hK => ?_) ?_
    · skip
      go_simp
      go_at_call 80
      first
      | (with_reducible refine calls_from (fun W' => From K W' ∧ OB W' w.heap.size (.slice (some ⟨(endOf K).heap.size, 0, none⟩) 0 0) []) ⟨From.alloc K _, OB.empty (T0.step K).A.K.size⟩ ?_
         rintro W' ⟨hW, Eb⟩
         have hE := K.size)
      | (with_reducible refine calls_from (From K) (From.same K) ?_
         intro W' hW
         try replace Eb := Eb.below hW.it)
      have TW := T0.step hW.all
      try replace Lp := Lp.below hW.it
      try replace Os := Os.below hW.it
      try replace Ob := Ob.below hW.it
      refine (l15PlanCopy_any _ d W' ((HP.out.below TW.A.K (Nat.le_refl _)).more TW.A.K.size)).mono ?_
      rintro e wn ⟨q0, q1, q2, q3, rfl, Lp_, hb⟩
      have Lp := Lp_.base TW.A.K.size
      obtain ⟨Q0, e0, rfl, -, -⟩ := Lp_.o0.formR
      obtain ⟨Q1, e1, rfl, -, -⟩ := Lp_.o1.formR
      obtain ⟨Q2, e2, rfl, -, -⟩ := Lp_.o2.formR
      obtain ⟨Q3, e3, rfl, -, -⟩ := Lp_.o3.formR
      clear Lp_
      try replace Eb := Eb.below hb
      try replace Lp := Lp.below hb
      try replace Os := Os.below hb
      replace K := hW.all.trans (hb.mono hW.all.size)
      clear hb hW TW
      go_wp2_with fail
      refine hK.out _ _ (fun o => (Below.cell (p := ⟨w.heap.size, o, none⟩) K hw0).trans (S0 o)) (fun hS => ?_)
      clear hK K'
      skip
      refine wpAnyH_ready (rs := [5]) (by kernel_rfl) (by simp) ?_
      refine AllReadyH.cons rfl (fun K' hK => ?_) ?_
      · skip
        go_simp
        go_at_call 93
        first
        | (with_reducible refine calls_from (fun W' => From K W' ∧ OB W' w.heap.size (.slice (some ⟨(endOf K).heap.size, 0, none⟩) 0 0) []) ⟨From.alloc K _, OB.empty (T0.step K).A.K.size⟩ ?_
           rintro W' ⟨hW, Eb⟩
           have hE := K.size)
        | (with_reducible refine calls_from (From K) (From.same K) ?_
           intro W' hW
           try replace Eb := Eb.below hW.it)
        have TW := T0.step hW.all
        try replace Lp := Lp.below hW.it
        try replace Os := Os.below hW.it
        try replace Ob := Ob.below hW.it
        refine (l5Copy_any _ s W' ((HS.out.below TW.A.K (Nat.le_refl _)).more TW.A.K.size)).mono ?_
        rintro e wn ⟨v5, rfl, Os_, hb⟩
        have Os := Os_.base TW.A.K.size
        obtain ⟨y0, y1, y2, y3, rfl, z0, z1, z2, z3⟩ := Os_.it
        have AP := apart_of Lp.o1 z3
        obtain ⟨Y0, f0, rfl, -⟩ := open_rowR z0
        obtain ⟨Y1, f1, rfl, -⟩ := open_rowR z1
        obtain ⟨Y2, f2, rfl, -⟩ := open_rowR z2
        obtain ⟨Y3, f3, rfl, -⟩ := open_rowR z3
        clear Os_ z0 z1 z2 z3
        try replace Eb := Eb.below hb
        try replace Lp := Lp.below hb
        try replace Os := Os.below hb
        replace K := hW.all.trans (hb.mono hW.all.size)
        clear hb hW TW
        go_wp2_with fail
        refine hK.out _ _ (fun o => (Below.cell (p := ⟨w.heap.size, o, none⟩) K hw0).trans (S0 o)) (fun hS => ?_)
        clear hK K'
        skip
        refine wpAnyH_ready (rs := [9]) (by kernel_rfl) (by simp) ?_
        refine AllReadyH.cons rfl (fun K' hK => ?_) ?_
        · skip
          first
          | (with_reducible refine step_from (fun W' => From K W' ∧ OB W' w.heap.size (.slice (some ⟨(endOf K).heap.size, 0, none⟩) 0 0) []) ⟨From.alloc K _, OB.empty (T0.step K).A.K.size⟩ ?_
             rintro W' ⟨hW, Eb⟩
             have hE := K.size)
          | (with_reducible refine step_from (From K) (From.same K) ?_
             intro W' hW
             try replace Eb := Eb.below hW.it)
          have TW := T0.step hW.all
          try replace Lp := Lp.below hW.it
          try replace Os := Os.below hW.it
          try replace Ob := Ob.below hW.it
          refine step_append_bt rfl _ _ rfl w.heap.size _ [] rfl Eb b st rfl (HB.out.below TW.A.K (Nat.le_refl _)) HR.out (by simpa using hst) TW.A.K.size ?_
          intro vb wn Ob hgr
          replace Lp := Lp.grown Eb hgr
          replace Os := Os.grown Eb hgr
          replace K := hW.all.grown hgr hW.all.size (fun r hr => Nat.le_trans hE (Nat.le_of_eq (Option.some.inj hr)))
          obtain ⟨Ab, cb, -, rfl, -⟩ := Ob.open_
          clear Eb hgr hE hW TW
          refine hK.out _ _ (fun o => (Below.cell (p := ⟨w.heap.size, o, none⟩) K hw0).trans (S0 o)) (fun hS => ?_)
          clear hK K'
          change wpAnyH _ _ _ _ _ _ _ (Act.put _ (some 12) _) _
          dsimp only [Act.put]
          refine wpAnyH_take (i := 10) (v := ?_) rfl (by kernel_rfl) (by kernel_rfl) (by kernel_rfl) (fun _ _ _ h => h) (Or.inl ⟨by rfl, ?_⟩) hS ?_
          rotate_left 1
          · intro w hSw
            (try dsimp only at hSw)
            go_simp
            try with_reducible rfl
          change wpAnyH _ _ _ _ _ _ _ (Act.put _ (some 13) _) _
          dsimp only [Act.put]
          refine wpAnyH_ready (rs := [11]) (by kernel_rfl) (by simp) ?_
          refine AllReadyH.cons rfl (fun K' hK => ?_) AllReadyH.nil
          rw [if_pos (by rfl)]
          have hh := (K.block _ hw1).trans HH
          refine wp_store_row 73 (.tmp 2) (.tmp 13) rfl (w.heap.size + 1) (agC (.slice Q0 d.n0 e0) (.slice Q1 d.n1 e1) (.slice Q2 d.n2 e2) (.slice Q3 d.n3 e3) d.l d.p d.t s.ph s.co s.ck s.bo s.ba s.lb (.slice Y0 s.pods.length f0) (.slice Y1 s.mnts.length f1) (.slice Y2 s.devs.length f2) (.slice Y3 s.lks.length f3) s.gd s.pr (.slice Ab st.length cb)) rfl rfl 73 _ hh HI.out rfl (by simp [Value.oneCell']) ?_
          have KS : Keeps (· = w.heap.size + 1) wn (wn.setRow (w.heap.size + 1) (agC (.slice Q0 d.n0 e0) (.slice Q1 d.n1 e1) (.slice Q2 d.n2 e2) (.slice Q3 d.n3 e3) d.l d.p d.t s.ph s.co s.ck s.bo s.ba s.lb (.slice Y0 s.pods.length f0) (.slice Y1 s.mnts.length f1) (.slice Y2 s.devs.length f2) (.slice Y3 s.lks.length f3) s.gd s.pr (.slice Ab st.length cb))) := keeps_setRow ..
          refine hK.out _ _ (fun o => (KS.cell (p := ⟨w.heap.size, o, none⟩) (Nat.lt_of_lt_of_le hw0 K.size) (Nat.ne_of_lt (Nat.lt_succ_self _))).trans ((Below.cell (p := ⟨w.heap.size, o, none⟩) K hw0).trans (S0 o))) (fun hS => ?_)
          clear hK K'
          refine wpAnyH_done (by kernel_rfl) ?_ _
          refine NoPanic.normal ?_
          go_wp2_with fail
          exact bodyPost_ret (v := .agg (agC (.slice Q0 d.n0 e0) (.slice Q1 d.n1 e1) (.slice Q2 d.n2 e2) (.slice Q3 d.n3 e3) d.l d.p d.t s.ph s.co s.ck s.bo s.ba s.lb (.slice Y0 s.pods.length f0) (.slice Y1 s.mnts.length f1) (.slice Y2 s.devs.length f2) (.slice Y3 s.lks.length f3) s.gd s.pr (.slice Ab st.length cb))) (results_cell_row Tryz.results83 _ _ _ _ _ _ _ rfl (setRow_heap wn _ _ _ _ _ hh) Tryz.underlying73 rfl HI.out) rfl ⟨_, rfl, ⟨_, _, _, _, _, _, _, _, _, rfl, Lp.keeps KS hh (by decide), Os.keepsT KS hh (by decide), Ob.keepsT KS hh (by decide), AP⟩, below_setRow (T0.step K).A.K (Nat.le_succ _) _⟩
        exact AllReadyH.nil
      exact AllReadyH.nil
    exact AllReadyH.nil
  exact AllReadyH.nil
end Go.Proofs.YtmgckdmglnmnnaaGreatDoor
