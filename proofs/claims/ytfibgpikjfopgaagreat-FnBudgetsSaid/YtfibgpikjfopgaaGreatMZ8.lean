/-
  The program's table of changes.
-/
import Derived.Test.YtfibgpikjfopgaaGreatMZ7
import Derived.Laws.Tables
import Derived.Laws.CopyOwn
import Derived.Test.YtfibgpikjfopgaaGreatMZxUo
import Derived.Test.YtfibgpikjfopgaaGreatMZ4
import Derived.Test.YtfibgpikjfopgaaGreatMZ1
import Derived.Test.YtfibgpikjfopgaaGreatMZ2
import Derived.Test.YtfibgpikjfopgaaGreatMZ5
import Derived.BigQuiet
import Derived.Test.YtfibgpikjfopgaaGreatMZ6
import Derived.Laws.EntriesVeiled
/- Ze -/
set_option linter.unusedVariables false
namespace Go.Proofs.YtfibgpikjfopgaaGreat
open Go.RowKit

theorem keeps_setRow (W : World) (g : Nat) (cs : Array Value) : Keeps (· = g) W (W.setRow g cs) := ⟨rfl, rfl, rfl, by simp, fun b hb hn => setRow_other W g b cs hn⟩
theorem row_apart {w : World} {B e k n g T : Nat} {cs : Array Value} {v : Value} {xs : List Value} (h : w.ownsRow B e k v n xs) (hg : w.heap[g]? = some (.cells cs T (0, 0))) (hne : T ≠ e) : ∀ r, v.ownBlock = some r → ¬ r = g := by
  rintro r hr rfl
  rcases h.2 with ⟨rfl, _⟩ | ⟨g1, c1, cur1, rfl, _, hh1, _⟩
  · cases hr
  · obtain rfl : g1 = r := by simpa [Value.ownBlock] using hr
    rw [hg] at hh1
    injection hh1 with hh1
    injection hh1 with _ h2 _
    exact hne h2
theorem OwnSt.keepsT {w w' : World} {B g T : Nat} {cs : Array Value} {v : Value} {s : StD} (h : OwnSt w B v s) (kk : Keeps (· = g) w w') (hg : w.heap[g]? = some (.cells cs T (0, 0))) (hT : T ≠ 74 ∧ T ≠ 87 ∧ T ≠ 4 ∧ T ≠ 2) : OwnSt w' B v s := by
  obtain ⟨v0, v1, v2, v3, hv, h0, h1, h2, h3⟩ := h.it
  exact ⟨v0, v1, v2, v3, hv, ownsRow_keeps h0 kk (row_apart h0 hg hT.1), ownsRow_keeps h1 kk (row_apart h1 hg hT.2.1), ownsRow_keeps h2 kk (row_apart h2 hg hT.2.2.1), ownsRow_keeps h3 kk (row_apart h3 hg hT.2.2.2)⟩
theorem OB.keepsT {w w' : World} {B g T : Nat} {cs : Array Value} {v : Value} {L : List Nat} (h : OB w B v L) (kk : Keeps (· = g) w w') (hg : w.heap[g]? = some (.cells cs T (0, 0))) (hT : T ≠ 5) : OB w' B v L := ⟨ownsRow_keeps h.own kk (row_apart h.own hg hT), h.small⟩
/-- What makes an agent of the call's own answers. -/
def MadeAg (w : World) (d : PlanD) (s : StD) (st : List Nat) (e : Ending) (w' : World) : Prop := ∃ v, e = .returned v ∧ OwnAg w' w.heap.size v d s st ∧ Below w.heap.size w w'

set_option maxRecDepth 100000 in
set_option maxHeartbeats 8000000 in
theorem l15Copy_any (v : Value) (d : PlanD) (s : StD) (st : List Nat) (w : World) (h : IsAg w w.heap.size v d s st) (hst : st.length ≤ 8388608) : Calls Tryz.prog 42 #[v] w (MadeAg w d s st) := by
  obtain ⟨p0, p1, p2, p3, s0, s1, s2, s3, b, rfl, hp, hs, hb, hr⟩ := h.it
  have HP := Lib.hid hp
  have HS := Lib.hid hs
  have HB := Lib.hid hb
  have HR := Lib.hid hr
  have HI : Hid ((Tryz.prog.info? 40).map (·.size) = some 20) := Lib.hid (by kernel_rfl)
  have T0 := Two.start w (agC p0 p1 p2 p3 d.l d.p d.t s.ph s.co s.ck s.bo s.ba s.lb s0 s1 s2 s3 s.gd s.pr b) (agC (.slice none 0 0) (.slice none 0 0) (.slice none 0 0) (.slice none 0 0) 0 0 0 0 false 0 0 0 0 (.slice none 0 0) (.slice none 0 0) (.slice none 0 0) (.slice none 0 0) 0 0 (.slice none 0 0)) 40 40
  have HH := heap_alloc2_new w (.cells (agC p0 p1 p2 p3 d.l d.p d.t s.ph s.co s.ck s.bo s.ba s.lb s0 s1 s2 s3 s.gd s.pr b) 40) (.cells (agC (.slice none 0 0) (.slice none 0 0) (.slice none 0 0) (.slice none 0 0) 0 0 0 0 false 0 0 0 0 (.slice none 0 0) (.slice none 0 0) (.slice none 0 0) (.slice none 0 0) 0 0 (.slice none 0 0)) 40)
  clear h hp hs hb hr
  go_enter Tryz.func42, Tryz.ntmps42
  go_upto_region 1 with fail
  generalize (w.alloc (.cells (agC p0 p1 p2 p3 d.l d.p d.t s.ph s.co s.ck s.bo s.ba s.lb s0 s1 s2 s3 s.gd s.pr b) 40)).alloc (.cells (agC (.slice none 0 0) (.slice none 0 0) (.slice none 0 0) (.slice none 0 0) 0 0 0 0 false 0 0 0 0 (.slice none 0 0) (.slice none 0 0) (.slice none 0 0) (.slice none 0 0) 0 0 (.slice none 0 0)) 40) = w1 at T0 HH ⊢
  refine wp_region_noPanic ?_
  refine wp_region_held_drew (S := (fun W => ∀ o, W.cell? ⟨w.heap.size, o, none⟩ = (agC p0 p1 p2 p3 d.l d.p d.t s.ph s.co s.ck s.bo s.ba s.lb s0 s1 s2 s3 s.gd s.pr b)[o]?)) (by kernel_rfl) ((T0.step (Below.refl _ _).drew).A.C) (fun hS => ?_)
  replace T0 := T0.step (Below.refl _ _).drew
  rw [← heap_drew w1] at HH
  generalize w1.drew = w0 at T0 HH hS ⊢
  have K : Below w0.heap.size w0 w0 := Below.refl _ _
  have S0 := T0.A.C
  have hw0 := T0.A.z
  have hw1 := T0.O.z
  refine wpAnyH_take (i := 0) (v := ?_) rfl (by kernel_rfl) (by kernel_rfl) (by kernel_rfl) (fun _ _ _ h => h) (Or.inl ⟨by rfl, ?_⟩) hS ?_
  rotate_left 1
  · intro w hSw
    (try dsimp only at hSw)
    go_simp
    try with_reducible rfl
  change wpAnyH _ _ _ _ _ _ _ (Act.put _ (some 3) _) _
  dsimp only [Act.put]
  refine wpAnyH_take (i := 1) (v := ?_) rfl (by kernel_rfl) (by kernel_rfl) (by kernel_rfl) (fun _ _ _ h => h) (Or.inl ⟨by rfl, ?_⟩) hS ?_
  rotate_left 1
  · intro w hSw
    (try dsimp only at hSw)
    go_simp
    try with_reducible rfl
  change wpAnyH _ _ _ _ _ _ _ (Act.put _ (some 4) _) _
  dsimp only [Act.put]
  refine wpAnyH_take (i := 3) (v := ?_) rfl (by kernel_rfl) (by kernel_rfl) (by kernel_rfl) (fun _ _ _ h => h) (Or.inl ⟨by rfl, ?_⟩) hS ?_
  rotate_left 1
  · intro w hSw
    (try dsimp only at hSw)
    go_simp
    try with_reducible rfl
  change wpAnyH _ _ _ _ _ _ _ (Act.put _ (some 6) _) _
  dsimp only [Act.put]
  refine wpAnyH_take (i := 4) (v := ?_) rfl (by kernel_rfl) (by kernel_rfl) (by kernel_rfl) (fun _ _ _ h => h) (Or.inl ⟨by rfl, ?_⟩) hS ?_
  rotate_left 1
  · intro w hSw
    (try dsimp only at hSw)
    go_simp
    try with_reducible rfl
  change wpAnyH _ _ _ _ _ _ _ (Act.put _ (some 7) _) _
  dsimp only [Act.put]
  refine wpAnyH_take (i := 7) (v := ?_) rfl (by kernel_rfl) (by kernel_rfl) (by kernel_rfl) (fun _ _ _ h => h) (Or.inl ⟨by rfl, ?_⟩) hS ?_
  rotate_left 1
  · intro w hSw
    (try dsimp only at hSw)
    go_simp
    try with_reducible rfl
  change wpAnyH _ _ _ _ _ _ _ (Act.put _ (some 10) _) _
  dsimp only [Act.put]
  refine wpAnyH_take (i := 8) (v := ?_) rfl (by kernel_rfl) (by kernel_rfl) (by kernel_rfl) (fun _ _ _ h => h) (Or.inl ⟨by rfl, ?_⟩) hS ?_
  rotate_left 1
  · intro w hSw
    (try dsimp only at hSw)
    go_simp
    try with_reducible rfl
  change wpAnyH _ _ _ _ _ _ _ (Act.put _ (some 11) _) _
  dsimp only [Act.put]
  refine wpAnyH_ready (rs := [2, 6]) (by kernel_rfl) (by simp) ?_
  refine AllReadyH.cons rfl (fun K' hK => ?_) ?_
  · skip
    go_simp
    go_at_call 18
    first
    | (with_reducible refine calls_from (fun W' => From K W' ∧ OB W' w.heap.size (.slice (some ⟨(endOf K).heap.size, 0, none⟩) 0 0) []) ⟨From.alloc K _, OB.empty (T0.step K).A.K.size⟩ ?_
       rintro W' ⟨hW, Eb⟩
       have hE := K.size)
    | (with_reducible refine calls_from (From K) (From.same K) ?_
       intro W' hW
       try replace Eb := Eb.below hW.it)
    have TW := T0.step hW.all
    try replace Lp := Lp.below hW.it
    try replace Os := Os.below hW.it
    try replace Ob := Ob.below hW.it
    refine (l15PlanCopy_any _ d W' ((HP.out.below TW.A.K (Nat.le_refl _)).more TW.A.K.size)).mono ?_
    rintro e wn ⟨q0, q1, q2, q3, rfl, Lp_, hb⟩
    have Lp := Lp_.base TW.A.K.size
    obtain ⟨Q0, e0, rfl, -, -⟩ := Lp_.o0.formR
    obtain ⟨Q1, e1, rfl, -, -⟩ := Lp_.o1.formR
    obtain ⟨Q2, e2, rfl, -, -⟩ := Lp_.o2.formR
    obtain ⟨Q3, e3, rfl, -, -⟩ := Lp_.o3.formR
    clear Lp_
    try replace Eb := Eb.below hb
    try replace Lp := Lp.below hb
    try replace Os := Os.below hb
    replace K := hW.all.trans (hb.mono hW.all.size)
    clear hb hW TW
    go_wp2_with fail
    refine hK.out _ _ (fun o => (Below.cell (p := ⟨w.heap.size, o, none⟩) K hw0).trans (S0 o)) (fun hS => ?_)
    clear hK K'
    skip
    refine wpAnyH_ready (rs := [5, 6]) (by kernel_rfl) (by simp) ?_
    refine AllReadyH.cons rfl (fun K' hK => ?_) ?_
    · skip
      go_simp
      go_at_call 29
      first
      | (with_reducible refine calls_from (fun W' => From K W' ∧ OB W' w.heap.size (.slice (some ⟨(endOf K).heap.size, 0, none⟩) 0 0) []) ⟨From.alloc K _, OB.empty (T0.step K).A.K.size⟩ ?_
         rintro W' ⟨hW, Eb⟩
         have hE := K.size)
      | (with_reducible refine calls_from (From K) (From.same K) ?_
         intro W' hW
         try replace Eb := Eb.below hW.it)
      have TW := T0.step hW.all
      try replace Lp := Lp.below hW.it
      try replace Os := Os.below hW.it
      try replace Ob := Ob.below hW.it
      refine (l5Copy_any _ s W' ((HS.out.below TW.A.K (Nat.le_refl _)).more TW.A.K.size)).mono ?_
      rintro e wn ⟨v5, rfl, Os_, hb⟩
      have Os := Os_.base TW.A.K.size
      obtain ⟨y0, y1, y2, y3, rfl, z0, z1, z2, z3⟩ := Os_.it
      have AP := apart_of Lp.o1 z3
      obtain ⟨Y0, f0, rfl, -⟩ := open_rowR z0
      obtain ⟨Y1, f1, rfl, -⟩ := open_rowR z1
      obtain ⟨Y2, f2, rfl, -⟩ := open_rowR z2
      obtain ⟨Y3, f3, rfl, -⟩ := open_rowR z3
      clear Os_ z0 z1 z2 z3
      try replace Eb := Eb.below hb
      try replace Lp := Lp.below hb
      try replace Os := Os.below hb
      replace K := hW.all.trans (hb.mono hW.all.size)
      clear hb hW TW
      go_wp2_with fail
      refine hK.out _ _ (fun o => (Below.cell (p := ⟨w.heap.size, o, none⟩) K hw0).trans (S0 o)) (fun hS => ?_)
      clear hK K'
      skip
      refine wpAnyH_ready (rs := [6]) (by kernel_rfl) (by simp) ?_
      refine AllReadyH.cons rfl (fun K' hK => ?_) ?_
      · skip
        go_simp
        have KA := (From.alloc K (.cells #[] 5)).all
        refine hK.out _ _ (fun o => (Below.cell (p := ⟨w.heap.size, o, none⟩) KA hw0).trans (S0 o)) (fun hS => ?_)
        clear hK K'
        skip
        clear KA
        refine wpAnyH_ready (rs := [9]) (by kernel_rfl) (by simp) ?_
        refine AllReadyH.cons rfl (fun K' hK => ?_) ?_
        · skip
          first
          | (with_reducible refine step_from (fun W' => From K W' ∧ OB W' w.heap.size (.slice (some ⟨(endOf K).heap.size, 0, none⟩) 0 0) []) ⟨From.alloc K _, OB.empty (T0.step K).A.K.size⟩ ?_
             rintro W' ⟨hW, Eb⟩
             have hE := K.size)
          | (with_reducible refine step_from (From K) (From.same K) ?_
             intro W' hW
             try replace Eb := Eb.below hW.it)
          have TW := T0.step hW.all
          try replace Lp := Lp.below hW.it
          try replace Os := Os.below hW.it
          try replace Ob := Ob.below hW.it
          refine step_append_bt rfl _ _ rfl w.heap.size _ [] rfl Eb b st rfl (HB.out.below TW.A.K (Nat.le_refl _)) HR.out (by simpa using hst) TW.A.K.size ?_
          intro vb wn Ob hgr
          replace Lp := Lp.grown Eb hgr
          replace Os := Os.grown Eb hgr
          replace K := hW.all.grown hgr hW.all.size (fun r hr => Nat.le_trans hE (Nat.le_of_eq (Option.some.inj hr)))
          obtain ⟨Ab, cb, -, rfl, -⟩ := Ob.open_
          clear Eb hgr hE hW TW
          refine hK.out _ _ (fun o => (Below.cell (p := ⟨w.heap.size, o, none⟩) K hw0).trans (S0 o)) (fun hS => ?_)
          clear hK K'
          change wpAnyH _ _ _ _ _ _ _ (Act.put _ (some 12) _) _
          dsimp only [Act.put]
          refine wpAnyH_take (i := 10) (v := ?_) rfl (by kernel_rfl) (by kernel_rfl) (by kernel_rfl) (fun _ _ _ h => h) (Or.inl ⟨by rfl, ?_⟩) hS ?_
          rotate_left 1
          · intro w hSw
            (try dsimp only at hSw)
            go_simp
            try with_reducible rfl
          change wpAnyH _ _ _ _ _ _ _ (Act.put _ (some 13) _) _
          dsimp only [Act.put]
          refine wpAnyH_ready (rs := [11]) (by kernel_rfl) (by simp) ?_
          refine AllReadyH.cons rfl (fun K' hK => ?_) AllReadyH.nil
          rw [if_pos (by rfl)]
          have hh := (K.block _ hw1).trans HH
          refine wp_store_row 40 (.tmp 2) (.tmp 13) rfl (w.heap.size + 1) (agC (.slice Q0 d.n0 e0) (.slice Q1 d.n1 e1) (.slice Q2 d.n2 e2) (.slice Q3 d.n3 e3) d.l d.p d.t s.ph s.co s.ck s.bo s.ba s.lb (.slice Y0 s.pods.length f0) (.slice Y1 s.mnts.length f1) (.slice Y2 s.devs.length f2) (.slice Y3 s.lks.length f3) s.gd s.pr (.slice Ab st.length cb)) rfl rfl 40 _ hh HI.out rfl (by simp [Value.oneCell']) ?_
          have KS : Keeps (· = w.heap.size + 1) wn (wn.setRow (w.heap.size + 1) (agC (.slice Q0 d.n0 e0) (.slice Q1 d.n1 e1) (.slice Q2 d.n2 e2) (.slice Q3 d.n3 e3) d.l d.p d.t s.ph s.co s.ck s.bo s.ba s.lb (.slice Y0 s.pods.length f0) (.slice Y1 s.mnts.length f1) (.slice Y2 s.devs.length f2) (.slice Y3 s.lks.length f3) s.gd s.pr (.slice Ab st.length cb))) := keeps_setRow ..
          refine hK.out _ _ (fun o => (KS.cell (p := ⟨w.heap.size, o, none⟩) (Nat.lt_of_lt_of_le hw0 K.size) (Nat.ne_of_lt (Nat.lt_succ_self _))).trans ((Below.cell (p := ⟨w.heap.size, o, none⟩) K hw0).trans (S0 o))) (fun hS => ?_)
          clear hK K'
          refine wpAnyH_done (by kernel_rfl) ?_ _
          refine NoPanic.normal ?_
          go_wp2_with fail
          exact bodyPost_ret (v := .agg (agC (.slice Q0 d.n0 e0) (.slice Q1 d.n1 e1) (.slice Q2 d.n2 e2) (.slice Q3 d.n3 e3) d.l d.p d.t s.ph s.co s.ck s.bo s.ba s.lb (.slice Y0 s.pods.length f0) (.slice Y1 s.mnts.length f1) (.slice Y2 s.devs.length f2) (.slice Y3 s.lks.length f3) s.gd s.pr (.slice Ab st.length cb))) (results_cell_row Tryz.results42 _ _ _ _ _ _ _ rfl (setRow_heap wn _ _ _ _ _ hh) Tryz.underlying40 rfl HI.out) rfl ⟨_, rfl, ⟨_, _, _, _, _, _, _, _, _, rfl, Lp.keeps KS hh (by decide), Os.keepsT KS hh (by decide), Ob.keepsT KS hh (by decide), AP⟩, below_setRow (T0.step K).A.K (Nat.le_succ _) _⟩
        exact AllReadyH.nil
      exact AllReadyH.nil
    refine AllReadyH.cons rfl (fun K' hK => ?_) ?_
    · skip
      go_simp
      have KA := (From.alloc K (.cells #[] 5)).all
      refine hK.out _ _ (fun o => (Below.cell (p := ⟨w.heap.size, o, none⟩) KA hw0).trans (S0 o)) (fun hS => ?_)
      clear hK K'
      skip
      clear KA
      refine wpAnyH_ready (rs := [5]) (by kernel_rfl) (by simp) ?_
      refine AllReadyH.cons rfl (fun K' hK => ?_) ?_
      · skip
        go_simp
        go_at_call 29
        first
        | (with_reducible refine calls_from (fun W' => From K W' ∧ OB W' w.heap.size (.slice (some ⟨(endOf K).heap.size, 0, none⟩) 0 0) []) ⟨From.alloc K _, OB.empty (T0.step K).A.K.size⟩ ?_
           rintro W' ⟨hW, Eb⟩
           have hE := K.size)
        | (with_reducible refine calls_from (From K) (From.same K) ?_
           intro W' hW
           try replace Eb := Eb.below hW.it)
        have TW := T0.step hW.all
        try replace Lp := Lp.below hW.it
        try replace Os := Os.below hW.it
        try replace Ob := Ob.below hW.it
        refine (l5Copy_any _ s W' ((HS.out.below TW.A.K (Nat.le_refl _)).more TW.A.K.size)).mono ?_
        rintro e wn ⟨v5, rfl, Os_, hb⟩
        have Os := Os_.base TW.A.K.size
        obtain ⟨y0, y1, y2, y3, rfl, z0, z1, z2, z3⟩ := Os_.it
        have AP := apart_of Lp.o1 z3
        obtain ⟨Y0, f0, rfl, -⟩ := open_rowR z0
        obtain ⟨Y1, f1, rfl, -⟩ := open_rowR z1
        obtain ⟨Y2, f2, rfl, -⟩ := open_rowR z2
        obtain ⟨Y3, f3, rfl, -⟩ := open_rowR z3
        clear Os_ z0 z1 z2 z3
        try replace Eb := Eb.below hb
        try replace Lp := Lp.below hb
        try replace Os := Os.below hb
        replace K := hW.all.trans (hb.mono hW.all.size)
        clear hb hW TW
        go_wp2_with fail
        refine hK.out _ _ (fun o => (Below.cell (p := ⟨w.heap.size, o, none⟩) K hw0).trans (S0 o)) (fun hS => ?_)
        clear hK K'
        skip
        refine wpAnyH_ready (rs := [9]) (by kernel_rfl) (by simp) ?_
        refine AllReadyH.cons rfl (fun K' hK => ?_) ?_
        · skip
          first
          | (with_reducible refine step_from (fun W' => From K W' ∧ OB W' w.heap.size (.slice (some ⟨(endOf K).heap.size, 0, none⟩) 0 0) []) ⟨From.alloc K _, OB.empty (T0.step K).A.K.size⟩ ?_
             rintro W' ⟨hW, Eb⟩
             have hE := K.size)
          | (with_reducible refine step_from (From K) (From.same K) ?_
             intro W' hW
             try replace Eb := Eb.below hW.it)
          have TW := T0.step hW.all
          try replace Lp := Lp.below hW.it
          try replace Os := Os.below hW.it
          try replace Ob := Ob.below hW.it
          refine step_append_bt rfl _ _ rfl w.heap.size _ [] rfl Eb b st rfl (HB.out.below TW.A.K (Nat.le_refl _)) HR.out (by simpa using hst) TW.A.K.size ?_
          intro vb wn Ob hgr
          replace Lp := Lp.grown Eb hgr
          replace Os := Os.grown Eb hgr
          replace K := hW.all.grown hgr hW.all.size (fun r hr => Nat.le_trans hE (Nat.le_of_eq (Option.some.inj hr)))
          obtain ⟨Ab, cb, -, rfl, -⟩ := Ob.open_
          clear Eb hgr hE hW TW
          refine hK.out _ _ (fun o => (Below.cell (p := ⟨w.heap.size, o, none⟩) K hw0).trans (S0 o)) (fun hS => ?_)
          clear hK K'
          change wpAnyH _ _ _ _ _ _ _ (Act.put _ (some 12) _) _
          dsimp only [Act.put]
          refine wpAnyH_take (i := 10) (v := ?_) rfl (by kernel_rfl) (by kernel_rfl) (by kernel_rfl) (fun _ _ _ h => h) (Or.inl ⟨by rfl, ?_⟩) hS ?_
          rotate_left 1
          · intro w hSw
            (try dsimp only at hSw)
            go_simp
            try with_reducible rfl
          change wpAnyH _ _ _ _ _ _ _ (Act.put _ (some 13) _) _
          dsimp only [Act.put]
          refine wpAnyH_ready (rs := [11]) (by kernel_rfl) (by simp) ?_
          refine AllReadyH.cons rfl (fun K' hK => ?_) AllReadyH.nil
          rw [if_pos (by rfl)]
          have hh := (K.block _ hw1).trans HH
          refine wp_store_row 40 (.tmp 2) (.tmp 13) rfl (w.heap.size + 1) (agC (.slice Q0 d.n0 e0) (.slice Q1 d.n1 e1) (.slice Q2 d.n2 e2) (.slice Q3 d.n3 e3) d.l d.p d.t s.ph s.co s.ck s.bo s.ba s.lb (.slice Y0 s.pods.length f0) (.slice Y1 s.mnts.length f1) (.slice Y2 s.devs.length f2) (.slice Y3 s.lks.length f3) s.gd s.pr (.slice Ab st.length cb)) rfl rfl 40 _ hh HI.out rfl (by simp [Value.oneCell']) ?_
          have KS : Keeps (· = w.heap.size + 1) wn (wn.setRow (w.heap.size + 1) (agC (.slice Q0 d.n0 e0) (.slice Q1 d.n1 e1) (.slice Q2 d.n2 e2) (.slice Q3 d.n3 e3) d.l d.p d.t s.ph s.co s.ck s.bo s.ba s.lb (.slice Y0 s.pods.length f0) (.slice Y1 s.mnts.length f1) (.slice Y2 s.devs.length f2) (.slice Y3 s.lks.length f3) s.gd s.pr (.slice Ab st.length cb))) := keeps_setRow ..
          refine hK.out _ _ (fun o => (KS.cell (p := ⟨w.heap.size, o, none⟩) (Nat.lt_of_lt_of_le hw0 K.size) (Nat.ne_of_lt (Nat.lt_succ_self _))).trans ((Below.cell (p := ⟨w.heap.size, o, none⟩) K hw0).trans (S0 o))) (fun hS => ?_)
          clear hK K'
          refine wpAnyH_done (by kernel_rfl) ?_ _
          refine NoPanic.normal ?_
          go_wp2_with fail
          exact bodyPost_ret (v := .agg (agC (.slice Q0 d.n0 e0) (.slice Q1 d.n1 e1) (.slice Q2 d.n2 e2) (.slice Q3 d.n3 e3) d.l d.p d.t s.ph s.co s.ck s.bo s.ba s.lb (.slice Y0 s.pods.length f0) (.slice Y1 s.mnts.length f1) (.slice Y2 s.devs.length f2) (.slice Y3 s.lks.length f3) s.gd s.pr (.slice Ab st.length cb))) (results_cell_row Tryz.results42 _ _ _ _ _ _ _ rfl (setRow_heap wn _ _ _ _ _ hh) Tryz.underlying40 rfl HI.out) rfl ⟨_, rfl, ⟨_, _, _, _, _, _, _, _, _, rfl, Lp.keeps KS hh (by decide), Os.keepsT KS hh (by decide), Ob.keepsT KS hh (by decide), AP⟩, below_setRow (T0.step K).A.K (Nat.le_succ _) _⟩
        exact AllReadyH.nil
      exact AllReadyH.nil
    exact AllReadyH.nil
  refine AllReadyH.cons rfl (fun K' hK => ?_) ?_
  · skip
    go_simp
    have KA := (From.alloc K (.cells #[] 5)).all
    refine hK.out _ _ (fun o => (Below.cell (p := ⟨w.heap.size, o, none⟩) KA hw0).trans (S0 o)) (fun hS => ?_)
    clear hK K'
    skip
    clear KA
    refine wpAnyH_ready (rs := [2]) (by kernel_rfl) (by simp) ?_
    refine AllReadyH.cons rfl (fun K' hK => ?_) ?_
    · skip
      go_simp
      go_at_call 18
      first
      | (with_reducible refine calls_from (fun W' => From K W' ∧ OB W' w.heap.size (.slice (some ⟨(endOf K).heap.size, 0, none⟩) 0 0) []) ⟨From.alloc K _, OB.empty (T0.step K).A.K.size⟩ ?_
         rintro W' ⟨hW, Eb⟩
         have hE := K.size)
      | (with_reducible refine calls_from (From K) (From.same K) ?_
         intro W' hW
         try replace Eb := Eb.below hW.it)
      have TW := T0.step hW.all
      try replace Lp := Lp.below hW.it
      try replace Os := Os.below hW.it
      try replace Ob := Ob.below hW.it
      refine (l15PlanCopy_any _ d W' ((HP.out.below TW.A.K (Nat.le_refl _)).more TW.A.K.size)).mono ?_
      rintro e wn ⟨q0, q1, q2, q3, rfl, Lp_, hb⟩
      have Lp := Lp_.base TW.A.K.size
      obtain ⟨Q0, e0, rfl, -, -⟩ := Lp_.o0.formR
      obtain ⟨Q1, e1, rfl, -, -⟩ := Lp_.o1.formR
      obtain ⟨Q2, e2, rfl, -, -⟩ := Lp_.o2.formR
      obtain ⟨Q3, e3, rfl, -, -⟩ := Lp_.o3.formR
      clear Lp_
      try replace Eb := Eb.below hb
      try replace Lp := Lp.below hb
      try replace Os := Os.below hb
      replace K := hW.all.trans (hb.mono hW.all.size)
      clear hb hW TW
      go_wp2_with fail
      refine hK.out _ _ (fun o => (Below.cell (p := ⟨w.heap.size, o, none⟩) K hw0).trans (S0 o)) (fun hS => ?_)
      clear hK K'
      skip
      refine wpAnyH_ready (rs := [5]) (by kernel_rfl) (by simp) ?_
      refine AllReadyH.cons rfl (fun K' hK => ?_) ?_
      · skip
        go_simp
        go_at_call 29
        first
        | (with_reducible refine calls_from (fun W' => From K W' ∧ OB W' w.heap.size (.slice (some ⟨(endOf K).heap.size, 0, none⟩) 0 0) []) ⟨From.alloc K _, OB.empty (T0.step K).A.K.size⟩ ?_
           rintro W' ⟨hW, Eb⟩
           have hE := K.size)
        | (with_reducible refine calls_from (From K) (From.same K) ?_
           intro W' hW
           try replace Eb := Eb.below hW.it)
        have TW := T0.step hW.all
        try replace Lp := Lp.below hW.it
        try replace Os := Os.below hW.it
        try replace Ob := Ob.below hW.it
        refine (l5Copy_any _ s W' ((HS.out.below TW.A.K (Nat.le_refl _)).more TW.A.K.size)).mono ?_
        rintro e wn ⟨v5, rfl, Os_, hb⟩
        have Os := Os_.base TW.A.K.size
        obtain ⟨y0, y1, y2, y3, rfl, z0, z1, z2, z3⟩ := Os_.it
        have AP := apart_of Lp.o1 z3
        obtain ⟨Y0, f0, rfl, -⟩ := open_rowR z0
        obtain ⟨Y1, f1, rfl, -⟩ := open_rowR z1
        obtain ⟨Y2, f2, rfl, -⟩ := open_rowR z2
        obtain ⟨Y3, f3, rfl, -⟩ := open_rowR z3
        clear Os_ z0 z1 z2 z3
        try replace Eb := Eb.below hb
        try replace Lp := Lp.below hb
        try replace Os := Os.below hb
        replace K := hW.all.trans (hb.mono hW.all.size)
        clear hb hW TW
        go_wp2_with fail
        refine hK.out _ _ (fun o => (Below.cell (p := ⟨w.heap.size, o, none⟩) K hw0).trans (S0 o)) (fun hS => ?_)
        clear hK K'
        skip
        refine wpAnyH_ready (rs := [9]) (by kernel_rfl) (by simp) ?_
        refine AllReadyH.cons rfl (fun K' hK => ?_) ?_
        · skip
          first
          | (with_reducible refine step_from (fun W' => From K W' ∧ OB W' w.heap.size (.slice (some ⟨(endOf K).heap.size, 0, none⟩) 0 0) []) ⟨From.alloc K _, OB.empty (T0.step K).A.K.size⟩ ?_
             rintro W' ⟨hW, Eb⟩
             have hE := K.size)
          | (with_reducible refine step_from (From K) (From.same K) ?_
             intro W' hW
             try replace Eb := Eb.below hW.it)
          have TW := T0.step hW.all
          try replace Lp := Lp.below hW.it
          try replace Os := Os.below hW.it
          try replace Ob := Ob.below hW.it
          refine step_append_bt rfl _ _ rfl w.heap.size _ [] rfl Eb b st rfl (HB.out.below TW.A.K (Nat.le_refl _)) HR.out (by simpa using hst) TW.A.K.size ?_
          intro vb wn Ob hgr
          replace Lp := Lp.grown Eb hgr
          replace Os := Os.grown Eb hgr
          replace K := hW.all.grown hgr hW.all.size (fun r hr => Nat.le_trans hE (Nat.le_of_eq (Option.some.inj hr)))
          obtain ⟨Ab, cb, -, rfl, -⟩ := Ob.open_
          clear Eb hgr hE hW TW
          refine hK.out _ _ (fun o => (Below.cell (p := ⟨w.heap.size, o, none⟩) K hw0).trans (S0 o)) (fun hS => ?_)
          clear hK K'
          change wpAnyH _ _ _ _ _ _ _ (Act.put _ (some 12) _) _
          dsimp only [Act.put]
          refine wpAnyH_take (i := 10) (v := ?_) rfl (by kernel_rfl) (by kernel_rfl) (by kernel_rfl) (fun _ _ _ h => h) (Or.inl ⟨by rfl, ?_⟩) hS ?_
          rotate_left 1
          · intro w hSw
            (try dsimp only at hSw)
            go_simp
            try with_reducible rfl
          change wpAnyH _ _ _ _ _ _ _ (Act.put _ (some 13) _) _
          dsimp only [Act.put]
          refine wpAnyH_ready (rs := [11]) (by kernel_rfl) (by simp) ?_
          refine AllReadyH.cons rfl (fun K' hK => ?_) AllReadyH.nil
          rw [if_pos (by rfl)]
          have hh := (K.block _ hw1).trans HH
          refine wp_store_row 40 (.tmp 2) (.tmp 13) rfl (w.heap.size + 1) (agC (.slice Q0 d.n0 e0) (.slice Q1 d.n1 e1) (.slice Q2 d.n2 e2) (.slice Q3 d.n3 e3) d.l d.p d.t s.ph s.co s.ck s.bo s.ba s.lb (.slice Y0 s.pods.length f0) (.slice Y1 s.mnts.length f1) (.slice Y2 s.devs.length f2) (.slice Y3 s.lks.length f3) s.gd s.pr (.slice Ab st.length cb)) rfl rfl 40 _ hh HI.out rfl (by simp [Value.oneCell']) ?_
          have KS : Keeps (· = w.heap.size + 1) wn (wn.setRow (w.heap.size + 1) (agC (.slice Q0 d.n0 e0) (.slice Q1 d.n1 e1) (.slice Q2 d.n2 e2) (.slice Q3 d.n3 e3) d.l d.p d.t s.ph s.co s.ck s.bo s.ba s.lb (.slice Y0 s.pods.length f0) (.slice Y1 s.mnts.length f1) (.slice Y2 s.devs.length f2) (.slice Y3 s.lks.length f3) s.gd s.pr (.slice Ab st.length cb))) := keeps_setRow ..
          refine hK.out _ _ (fun o => (KS.cell (p := ⟨w.heap.size, o, none⟩) (Nat.lt_of_lt_of_le hw0 K.size) (Nat.ne_of_lt (Nat.lt_succ_self _))).trans ((Below.cell (p := ⟨w.heap.size, o, none⟩) K hw0).trans (S0 o))) (fun hS => ?_)
          clear hK K'
          refine wpAnyH_done (by kernel_rfl) ?_ _
          refine NoPanic.normal ?_
          go_wp2_with fail
          exact bodyPost_ret (v := .agg (agC (.slice Q0 d.n0 e0) (.slice Q1 d.n1 e1) (.slice Q2 d.n2 e2) (.slice Q3 d.n3 e3) d.l d.p d.t s.ph s.co s.ck s.bo s.ba s.lb (.slice Y0 s.pods.length f0) (.slice Y1 s.mnts.length f1) (.slice Y2 s.devs.length f2) (.slice Y3 s.lks.length f3) s.gd s.pr (.slice Ab st.length cb))) (results_cell_row Tryz.results42 _ _ _ _ _ _ _ rfl (setRow_heap wn _ _ _ _ _ hh) Tryz.underlying40 rfl HI.out) rfl ⟨_, rfl, ⟨_, _, _, _, _, _, _, _, _, rfl, Lp.keeps KS hh (by decide), Os.keepsT KS hh (by decide), Ob.keepsT KS hh (by decide), AP⟩, below_setRow (T0.step K).A.K (Nat.le_succ _) _⟩
        exact AllReadyH.nil
      exact AllReadyH.nil
    exact AllReadyH.nil
  exact AllReadyH.nil
end Go.Proofs.YtfibgpikjfopgaaGreat
/- Zf -/
set_option linter.unusedVariables false
namespace Go.Proofs.YtfibgpikjfopgaaGreat
open Go.RowKit

theorem results_two_row {P : Program} {fn : Func} {p q : Tmp} {ty : TypeId} (h : fn.results = #[.cell p ty, .tmp q]) (tmps : Array Value) (w : World) (g : Nat) (t : TypeId) (cs : Array Value) (fr : Nat × Nat) (d : TypeDesc) (u : Value)
    (hp : tmps.getD p undef = .pointer (some ⟨g, 0, none⟩)) (hq : tmps.getD q undef = u) (hg : w.heap[g]? = some (.cells cs t fr))
    (hu : P.underlying ty = some d) (hd : (match d with | .struct _ | .array _ _ => true | _ => false) = true) (hi : (P.info? ty).map (·.size) = some cs.size) :
    (results fn tmps).run P w = .ok (.tuple #[.agg cs, u]) w := by
  have hp' : tmps[p]?.getD undef = .pointer (some ⟨g, 0, none⟩) := by simpa using hp
  have hq' : tmps[q]?.getD undef = u := by simpa using hq
  simp [results, h, hp', hq', asAddr, run_loadVar_row w g t ty cs fr d hg hu hd hi]

set_option maxRecDepth 100000 in
set_option maxHeartbeats 8000000 in
theorem newAgent_any (v : Value) (d : PlanD) (w : World) (h : IsPlR w w.heap.size v d) (hok : planOkB d = true) :
    Calls Tryz.prog 7 #[v] w fun e w' => ∃ v', e = .returned (.tuple #[v', .bool true]) ∧ OwnAg w' w.heap.size v' d (newS d) [] ∧ Below w.heap.size w w' := by
  have HP := Lib.hid h
  have HOK := Lib.hid hok
  obtain ⟨⟨A0, A1, A2, A3, c0, c1, c2, c3, rfl, -, -⟩, -⟩ := h
  have HI : Hid ((Tryz.prog.info? 40).map (·.size) = some 20) := Lib.hid (by kernel_rfl)
  have T0 := Two.start w (planC A0 A1 A2 A3 d.n0 c0 d.n1 c1 d.n2 c2 d.n3 c3 d.l d.p d.t) (agC (.slice none 0 0) (.slice none 0 0) (.slice none 0 0) (.slice none 0 0) 0 0 0 0 false 0 0 0 0 (.slice none 0 0) (.slice none 0 0) (.slice none 0 0) (.slice none 0 0) 0 0 (.slice none 0 0)) 32 40
  have HH := heap_alloc2_new w (.cells (planC A0 A1 A2 A3 d.n0 c0 d.n1 c1 d.n2 c2 d.n3 c3 d.l d.p d.t) 32) (.cells (agC (.slice none 0 0) (.slice none 0 0) (.slice none 0 0) (.slice none 0 0) 0 0 0 0 false 0 0 0 0 (.slice none 0 0) (.slice none 0 0) (.slice none 0 0) (.slice none 0 0) 0 0 (.slice none 0 0)) 40)
  obtain ⟨s, hs⟩ : ∃ s, newS d = s := ⟨_, rfl⟩
  rw [hs]
  have HSN := Lib.hid hs
  clear hok hs
  go_enter Tryz.func7, Tryz.ntmps7
  go_wp2_with fail
  generalize (w.alloc (.cells (planC A0 A1 A2 A3 d.n0 c0 d.n1 c1 d.n2 c2 d.n3 c3 d.l d.p d.t) 32)).alloc (.cells (agC (.slice none 0 0) (.slice none 0 0) (.slice none 0 0) (.slice none 0 0) 0 0 0 0 false 0 0 0 0 (.slice none 0 0) (.slice none 0 0) (.slice none 0 0) (.slice none 0 0) 0 0 (.slice none 0 0)) 40) = w1 at T0 HH ⊢
  refine (spec_planOk_any _ d _ ((HP.out.is.below T0.A.K (Nat.le_refl _)).more T0.A.K.size)).mono ?_
  rintro e w2 ⟨rfl, hb⟩
  rw [HOK.out]
  have hw1' := T0.O.z
  replace HH := (hb.block _ hw1').trans HH
  replace T0 := T0.step hb
  clear hb hw1'
  go_upto_region 3 with fail
  refine wp_region_noPanic ?_
  refine wp_region_held_drew (S := (fun W => ∀ o, W.cell? ⟨w.heap.size, o, none⟩ = (planC A0 A1 A2 A3 d.n0 c0 d.n1 c1 d.n2 c2 d.n3 c3 d.l d.p d.t)[o]?)) (by kernel_rfl) ((T0.step (Below.refl _ _).drew).A.C) (fun hS => ?_)
  replace T0 := T0.step (Below.refl _ _).drew
  rw [← heap_drew w2] at HH
  generalize w2.drew = w0 at T0 HH hS ⊢
  have K : Below w0.heap.size w0 w0 := Below.refl _ _
  have S0 := T0.A.C
  have hw0 := T0.A.z
  have hw1 := T0.O.z
  refine wpAnyH_take (i := 0) (v := ?_) rfl (by kernel_rfl) (by kernel_rfl) (by kernel_rfl) (fun _ _ _ h => h) (Or.inl ⟨by rfl, ?_⟩) hS ?_
  rotate_left 1
  · intro w hSw
    (try dsimp only at hSw)
    go_simp
    try with_reducible rfl
  change wpAnyH _ _ _ _ _ _ _ (Act.put _ (some 8) _) _
  dsimp only [Act.put]
  refine wpAnyH_take (i := 2) (v := ?_) rfl (by kernel_rfl) (by kernel_rfl) (by kernel_rfl) (fun _ _ _ h => h) (Or.inl ⟨by rfl, ?_⟩) hS ?_
  rotate_left 1
  · intro w hSw
    (try dsimp only at hSw)
    go_simp
    try with_reducible rfl
  change wpAnyH _ _ _ _ _ _ _ (Act.put _ (some 10) _) _
  dsimp only [Act.put]
  refine wpAnyH_ready (rs := [1]) (by kernel_rfl) (by simp) ?_
  refine AllReadyH.cons rfl (fun K' hK => ?_) AllReadyH.nil
  go_simp
  go_at_call 18
  refine (l15PlanCopy_any _ d _ ((HP.out.below T0.A.K (Nat.le_refl _)).more T0.A.K.size)).mono ?_
  rintro e wn ⟨q0, q1, q2, q3, rfl, Lp, hb⟩
  replace Lp := Lp.base T0.A.K.size
  obtain ⟨Q0, e0, rfl, -, -⟩ := Lp.o0.formR
  obtain ⟨Q1, e1, rfl, -, -⟩ := Lp.o1.formR
  obtain ⟨Q2, e2, rfl, -, -⟩ := Lp.o2.formR
  obtain ⟨Q3, e3, rfl, -, -⟩ := Lp.o3.formR
  replace K := K.trans (hb.mono K.size)
  clear hb
  go_wp2_with fail
  refine hK.out _ _ (fun o => (Below.cell (p := ⟨w.heap.size, o, none⟩) K hw0).trans (S0 o)) (fun hS => ?_)
  clear hK K'
  skip
  refine wpAnyH_ready (rs := [3]) (by kernel_rfl) (by simp) ?_
  refine AllReadyH.cons rfl (fun K' hK => ?_) AllReadyH.nil
  go_simp
  go_at_call 19
  have TK := T0.step K
  refine (specNewState_any _ d _ ((HP.out.is.below TK.A.K (Nat.le_refl _)).more TK.A.K.size)).mono ?_
  rintro e wn2 ⟨v5, rfl, Os, hb⟩
  rw [HSN.out] at Os
  have Osb := Os.base TK.A.K.size
  obtain ⟨y0, y1, y2, y3, rfl, z0, z1, z2, z3⟩ := Os.it
  have AP := apart_of Lp.o1 z3
  clear Os
  have Os := Osb
  clear Osb
  obtain ⟨Y0, f0, rfl, -⟩ := open_rowR z0
  obtain ⟨Y1, f1, rfl, -⟩ := open_rowR z1
  obtain ⟨Y2, f2, rfl, -⟩ := open_rowR z2
  obtain ⟨Y3, f3, rfl, -⟩ := open_rowR z3
  replace Lp := Lp.below hb
  replace K := K.trans (hb.mono K.size)
  clear hb z0 z1 z2 z3 TK
  go_wp2_with fail
  refine hK.out _ _ (fun o => (Below.cell (p := ⟨w.heap.size, o, none⟩) K hw0).trans (S0 o)) (fun hS => ?_)
  clear hK K'
  skip
  refine wpAnyH_take (i := 4) (v := ?_) rfl (by kernel_rfl) (by kernel_rfl) (by kernel_rfl) (fun _ _ _ h => h) (Or.inl ⟨by rfl, ?_⟩) hS ?_
  rotate_left 1
  · intro w hSw
    (try dsimp only at hSw)
    go_simp
    try with_reducible rfl
  change wpAnyH _ _ _ _ _ _ _ (Act.put _ (some 12) _) _
  dsimp only [Act.put]
  refine wpAnyH_ready (rs := [5]) (by kernel_rfl) (by simp) ?_
  refine AllReadyH.cons rfl (fun K' hK => ?_) AllReadyH.nil
  rw [if_pos (by rfl)]
  have hh := (K.block _ hw1).trans HH
  refine wp_store_row 40 (.tmp 2) (.tmp 12) rfl (w.heap.size + 1) (agC (.slice Q0 d.n0 e0) (.slice Q1 d.n1 e1) (.slice Q2 d.n2 e2) (.slice Q3 d.n3 e3) d.l d.p d.t s.ph s.co s.ck s.bo s.ba s.lb (.slice Y0 s.pods.length f0) (.slice Y1 s.mnts.length f1) (.slice Y2 s.devs.length f2) (.slice Y3 s.lks.length f3) s.gd s.pr (.slice none 0 0)) rfl rfl 40 _ hh HI.out rfl (by simp [Value.oneCell']) ?_
  have KS : Keeps (· = w.heap.size + 1) wn2 (wn2.setRow (w.heap.size + 1) (agC (.slice Q0 d.n0 e0) (.slice Q1 d.n1 e1) (.slice Q2 d.n2 e2) (.slice Q3 d.n3 e3) d.l d.p d.t s.ph s.co s.ck s.bo s.ba s.lb (.slice Y0 s.pods.length f0) (.slice Y1 s.mnts.length f1) (.slice Y2 s.devs.length f2) (.slice Y3 s.lks.length f3) s.gd s.pr (.slice none 0 0))) := keeps_setRow ..
  have hS2 : ∀ o, (wn2.setRow (w.heap.size + 1) (agC (.slice Q0 d.n0 e0) (.slice Q1 d.n1 e1) (.slice Q2 d.n2 e2) (.slice Q3 d.n3 e3) d.l d.p d.t s.ph s.co s.ck s.bo s.ba s.lb (.slice Y0 s.pods.length f0) (.slice Y1 s.mnts.length f1) (.slice Y2 s.devs.length f2) (.slice Y3 s.lks.length f3) s.gd s.pr (.slice none 0 0))).cell? ⟨w.heap.size, o, none⟩ = (planC A0 A1 A2 A3 d.n0 c0 d.n1 c1 d.n2 c2 d.n3 c3 d.l d.p d.t)[o]? := fun o => (KS.cell (p := ⟨w.heap.size, o, none⟩) (Nat.lt_of_lt_of_le hw0 K.size) (Nat.ne_of_lt (Nat.lt_succ_self _))).trans ((Below.cell (p := ⟨w.heap.size, o, none⟩) K hw0).trans (S0 o))
  refine hK.out _ _ hS2 (fun hS => ?_)
  clear hK K'
  refine wpAnyH_ready (rs := [6]) (by kernel_rfl) (by simp) ?_
  refine AllReadyH.cons rfl (fun K' hK => ?_) AllReadyH.nil
  go_simp
  refine hK.out _ _ hS2 (fun hS => ?_)
  clear hK K'
  refine wpAnyH_done (by kernel_rfl) ?_ _
  refine NoPanic.normal ?_
  go_wp2_with fail
  exact bodyPost_ret (v := .tuple #[.agg (agC (.slice Q0 d.n0 e0) (.slice Q1 d.n1 e1) (.slice Q2 d.n2 e2) (.slice Q3 d.n3 e3) d.l d.p d.t s.ph s.co s.ck s.bo s.ba s.lb (.slice Y0 s.pods.length f0) (.slice Y1 s.mnts.length f1) (.slice Y2 s.devs.length f2) (.slice Y3 s.lks.length f3) s.gd s.pr (.slice none 0 0)), .bool true]) (results_two_row Tryz.results7 _ _ _ _ _ _ _ _ rfl rfl (setRow_heap wn2 _ _ _ _ _ hh) Tryz.underlying40 rfl HI.out) rfl ⟨_, rfl, ⟨_, _, _, _, _, _, _, _, _, rfl, Lp.keeps KS hh (by decide), Os.keepsT KS hh (by decide), OB.nil_ _ _, AP⟩, below_setRow (T0.step K).A.K (Nat.le_succ _) _⟩
end Go.Proofs.YtfibgpikjfopgaaGreat
/- Mb -/
set_option linter.unusedVariables false
namespace Go.Proofs.YtfibgpikjfopgaaGreat
open Go.RowKit Go.Maps

theorem mem_hits {n : Nat} {f : Nat → Int} {b x : Int} : x ∈ hits n f b ↔ (0 ≤ x ∧ x < n) ∧ f x.toNat = b := by
  constructor
  · intro h
    obtain ⟨i, hi, rfl, e⟩ := hits_mem h
    exact ⟨by omega, by simpa using e⟩
  · rintro ⟨⟨h0, h1⟩, e⟩
    have := hits_in (f := f) (n := n) (i := x.toNat) (by omega)
    rw [e] at this
    rwa [Int.toNat_of_nonneg h0] at this
theorem hits_rise (n : Nat) (f : Nat → Int) (b : Int) : (hits n f b).Pairwise (· < ·) := picks_rise n fun i => f i == b
theorem take_one {L : List Int} {k : Nat} (hk : k < L.length) : L.take (k + 1) = L.take k ++ [L.getD k 0] := by
  rw [List.take_add_one]
  simp [List.getD, hk]
theorem not_taken {L : List Int} (hp : L.Pairwise (· < ·)) {k : Nat} (hk : k < L.length) : L.getD k 0 ∉ L.take k := by
  intro hm
  have e := take_one hk
  have h2 : (L.take (k + 1)).Pairwise (· < ·) := hp.sublist (List.take_sublist _ _)
  rw [e, List.pairwise_append] at h2
  have := h2.2.2 _ hm _ (List.mem_singleton.2 rfl)
  omega
theorem SetD.one {D : DataW Unit} {L : List Int} (hp : L.Pairwise (· < ·)) {k : Nat} (hk : k < L.length) (h : SetD D (fun i => decide (i ∈ L.take k)) k) :
    SetD (D.put (.int .i64 (L.getD k 0)) (.lit (.bool true))) (fun i => decide (i ∈ L.take (k + 1))) (k + 1) := by
  refine (h.put (L.getD k 0) (by simpa using not_taken hp hk)).congr (fun i => ?_) rfl
  rw [take_one hk]
  simp [List.mem_append]

def leftQ (d : PlanD) (s : StD) (g : Int) (k i : Nat) : Bool := decide (d.x0 (i * 4) = g) && (decide (k ≤ i) || decide ((podA s.pods i).1 = 0))
def leftF (d : PlanD) (s : StD) (g : Int) (k : Nat) (i : Int) : Bool := (decide (0 ≤ i) && decide (i < d.n0)) && leftQ d s g k i.toNat
def leftN (d : PlanD) (s : StD) (g : Int) (k : Nat) : Nat := (List.range d.n0).countP (leftQ d s g k)
theorem left_start {D : DataW Unit} {d : PlanD} {s : StD} {g : Int} {L : List Int} (hL : L = hits d.n0 (fun i => d.x0 (i * 4)) g) (h : SetD D (fun i => decide (i ∈ L.take L.length)) L.length) : SetD D (leftF d s g 0) (leftN d s g 0) := by
  subst hL
  refine h.congr (fun i => ?_) ?_
  · rw [List.take_length]
    unfold leftF leftQ
    rw [Bool.eq_iff_iff]
    simp [mem_hits]
  · unfold leftN leftQ
    simp [hits, List.countP_eq_length_filter, BEq.beq]
theorem leftQ_next {d : PlanD} {s : StD} {g : Int} {k i : Nat} (h : i = k → (podA s.pods k).1 = 0) : leftQ d s g k i = leftQ d s g (k + 1) i := by
  unfold leftQ
  by_cases e : i = k
  · subst e
    simp [h rfl]
  · have : (k ≤ i) ↔ (k + 1 ≤ i) := by omega
    simp only [this]
theorem left_stay {D : DataW Unit} {d : PlanD} {s : StD} {g : Int} {k : Nat} (h : SetD D (leftF d s g k) (leftN d s g k)) (hr : (podA s.pods k).1 = 0) : SetD D (leftF d s g (k + 1)) (leftN d s g (k + 1)) := by
  have e : leftQ d s g k = leftQ d s g (k + 1) := funext fun i => leftQ_next fun _ => hr
  refine h.congr (fun i => ?_) ?_
  · unfold leftF; rw [e]
  · unfold leftN; rw [e]
theorem left_drop {D : DataW Unit} {d : PlanD} {s : StD} {g : Int} {k : Nat} (h : SetD D (leftF d s g k) (leftN d s g k)) (hk : k < d.n0) (hr : (podA s.pods k).1 ≠ 0) : SetD (D.del (.int .i64 k)) (leftF d s g (k + 1)) (leftN d s g (k + 1)) := by
  have h0 : leftQ d s g (k + 1) k = false := by
    unfold leftQ
    have : ¬ (k + 1 ≤ k) := by omega
    simp [this, hr]
  refine (h.del k).congr (fun i => ?_) ?_
  · unfold leftF
    by_cases e : i = (k : Int)
    · subst e
      rw [Int.toNat_natCast, h0]
      simp
    · by_cases e2 : 0 ≤ i
      · rw [leftQ_next (k := k) (i := i.toNat) (fun e3 => absurd (by omega) e)]
        simp [e]
      · simp [e2]
  · have hF : leftF d s g k k = leftQ d s g k k := by
      unfold leftF
      rw [Int.toNat_natCast]
      have : (k : Int) < d.n0 := by omega
      simp [this]
    rw [hF]
    unfold leftN
    cases hq : leftQ d s g k k
    · have e : ∀ i, leftQ d s g k i = leftQ d s g (k + 1) i := fun i => by
        by_cases e : i = k
        · rw [e, hq, h0]
        · exact leftQ_next fun e2 => absurd e2 e
      rw [show leftQ d s g k = leftQ d s g (k + 1) from funext e]
      simp
    · have := count_flip hq h0 (fun j hj => leftQ_next fun e2 => absurd e2 hj) d.n0
      rw [if_pos hk] at this
      rw [this]
      simp
theorem left_end {D : DataW Unit} {d : PlanD} {s : StD} {g : Int} (h : SetD D (leftF d s g d.n0) (leftN d s g d.n0)) : (∀ i : Nat, i < d.n0 → D.atKey (.int .i64 i) (.lit (.bool false)) = .lit (.bool (hP d s g i))) ∧ (Go.Maps.size D : Int) = healthyN d s g := by
  have e : ∀ i, i < d.n0 → leftQ d s g d.n0 i = hP d s g i := fun i hi => by
    unfold leftQ hP
    have : ¬ (d.n0 ≤ i) := by omega
    simp [this]
  refine ⟨fun i hi => ?_, ?_⟩
  · rw [h.at_]
    unfold leftF
    rw [Int.toNat_natCast, e i hi]
    have : (i : Int) < d.n0 := by omega
    simp [this]
  · rw [h.size_, healthyN_count]
    unfold leftN
    congr 1
    exact List.countP_congr fun i hi => by rw [e i (List.mem_range.1 hi)]
end Go.Proofs.YtfibgpikjfopgaaGreat
/- Mc -/
set_option linter.unusedVariables false
namespace Go.Proofs.YtfibgpikjfopgaaGreat
open Go.RowKit Go.Maps

theorem law64 : Keyed Tryz.prog 2 := int_keyed Tryz.underlying2
theorem zero_bool (w : World) : (zeroValue 4).run Tryz.prog w = .ok (.bool false) w := by kernel_rfl
theorem Keeps.of_grownM {w w' : World} {b : Nat} (h : w.grownBy w' (some b)) : Keeps (fun x => x = b) w w' := by
  obtain ⟨h1, h2, h3, h4, h5⟩ := h
  exact ⟨h1, h2, h3, h4, fun i hi hn => h5 i hi (fun e => hn (by cases e; rfl))⟩
theorem Two.keepB {w w1 w2 : World} {cs os : Array Value} {b : Nat} (h : Two w w1 cs os) (hg : w1.grownBy w2 (some b)) (hb : w.heap.size + 2 ≤ b) : Two w w2 cs os :=
  ⟨h.A.keeps (Keeps.of_grownM hg) (by intro x hx; omega) (by omega), h.O.keeps (Keeps.of_grownM hg) (by intro x hx; omega) (by omega)⟩
/-- What leftIn answers: a map of the call's own. -/
def LeftIn (w : World) (d : PlanD) (s : StD) (g : Int) (e : Ending) (w' : World) : Prop :=
  ∃ B n D, e = .returned (.map (some B)) ∧ w'.ownsMap Tryz.prog 2 (plainElem (H := Unit) Tryz.prog 4) B n D ∧ (∀ i : Nat, i < d.n0 → D.atKey (.int .i64 i) (.lit (.bool false)) = .lit (.bool (hP d s g i))) ∧
    (Go.Maps.size D : Int) = healthyN d s g ∧ Below w.heap.size w w'

set_option maxRecDepth 100000 in
set_option maxHeartbeats 4000000 in
theorem implLeftIn_any (pv sv : Value) (d : PlanD) (s : StD) (g : Int) (w : World) (hp : IsPlan w w.heap.size pv d) (hs : IsSt w w.heap.size sv s) (hok : StOk d s) :
    Calls Tryz.prog 24 #[pv, sv, .int .i64 g] w (LeftIn w d s g) := by
  have HP := Lib.hid hp
  have HS := Lib.hid hs
  have OK := Lib.hid hok
  have HL := Lib.hid (planOk_lock hok.plan)
  obtain ⟨⟨P0, P1, P2, P3, k0, k1, k2, k3, rfl, -, -, -, -⟩, b0, b1, b2, b3⟩ := hp
  obtain ⟨⟨A0, A1, A2, A3, c0, c1, c2, c3, rfl, t0, -, -, -⟩, f0, f1, f2, f3⟩ := hs
  have R0 := Lib.hid t0
  clear t0 hok
  unfold maxLen at b0 b1 b2 b3 f0 f1 f2 f3
  have T0 := Two.start w (planC P0 P1 P2 P3 d.n0 k0 d.n1 k1 d.n2 k2 d.n3 k3 d.l d.p d.t) (stC A0 A1 A2 A3 s.pods.length c0 s.mnts.length c1 s.devs.length c2 s.lks.length c3 s.ph s.co s.ck s.bo s.ba s.lb s.gd s.pr) 32 38
  have hmm := @run_makeMap Tryz.prog
  go_enter Tryz.func24, Tryz.ntmps24
  go_wp2_with fail
  have T1 := T0.step ((Below.refl _ _).alloc (Nat.le_refl _) (.map #[] 0))
  have M1 := World.ownsMap_made ((w.alloc (.cells (planC P0 P1 P2 P3 d.n0 k0 d.n1 k1 d.n2 k2 d.n3 k3 d.l d.p d.t) 32)).alloc (.cells (stC A0 A1 A2 A3 s.pods.length c0 s.mnts.length c1 s.devs.length c2 s.lks.length c3 s.ph s.co s.ck s.bo s.ba s.lb s.gd s.pr) 38)) Tryz.prog 2 (plainElem (H := Unit) Tryz.prog 4)
  simp only [heap_size_alloc_] at M1
  refine (implPodsIn_any _ d g _ ((HP.out.below T1.A.K (Nat.le_refl _)).more T1.A.K.size) (by have := HL.out; omega)).mono ?_
  rintro e w2 ⟨v, rfl, O, hb⟩
  rw [found_yes OK.out.plan] at O
  obtain ⟨L, hL⟩ : ∃ L, hits d.n0 (fun i => d.x0 (i * 4)) g = L := ⟨_, rfl⟩
  rw [hL] at O
  obtain ⟨Q, c, r0, rfl, hQ, hB, hz, R⟩ := open_list O
  have T2 := T1.step hb
  have M2 := M1.kept (row := none) ⟨hb.os, hb.tape, hb.output, hb.size, fun k hk _ => hb.block k hk⟩ (by simp)
  have HQ := Lib.hid hQ
  have HR := Lib.hid R
  have HB := Lib.hid hB
  have HLn : Hid (L.length ≤ 12) := Lib.hid (by rw [← hL]; have := hits_le d.n0 (fun i => d.x0 (i * 4)) g; have := HL.out; omega)
  have HLR : Hid (L.Pairwise (· < ·)) := Lib.hid (by rw [← hL]; exact hits_rise _ _ _)
  have HLW : Hid (∀ k, k < L.length → (Lit.int .i64 (L.getD k 0)).wf = true) := Lib.hid fun k hk => by
    have hm : L.getD k 0 ∈ hits d.n0 (fun i => d.x0 (i * 4)) g := by
      rw [hL]
      simp [List.getD, hk]
    have := mem_hits.1 hm
    have := HL.out
    exact WalkArith.wf_i64 (by omega)
  have HLL := Lib.hid hL.symm
  simp only [heap_size_alloc_] at hB
  have HB := Lib.hid hB
  have HZ := Lib.hid hz
  have HR := Lib.hid R
  clear hL hQ hB hz R O M1 T1 T0 hb
  have hln := HLn.out
  go_wp2_with fail
  go_loopw [17] (fun i wr => ∃ (k : Nat) (D : DataW Unit), k ≤ L.length ∧ i = .int .i64 k ∧ wr.ownsMap Tryz.prog 2 (plainElem Tryz.prog 4) (w.heap.size + 1 + 1) k D ∧ SetD D (fun i => decide (i ∈ L.take k)) k ∧ Keeps (fun x => x = w.heap.size + 1 + 1) w2 wr ∧ Two w wr (planC P0 P1 P2 P3 d.n0 k0 d.n1 k1 d.n2 k2 d.n3 k3 d.l d.p d.t) (stC A0 A1 A2 A3 s.pods.length c0 s.mnts.length c1 s.devs.length c2 s.lks.length c3 s.ph s.co s.ck s.bo s.ba s.lb s.gd s.pr)) (fun i _ => L.length - (intOf i).toNat)
  case atStart => exact ⟨0, _, Nat.zero_le _, rfl, M2, SetD.empty.congr (fun i => by simp) rfl, Keeps.refl _ _, T2⟩
  case round =>
    clear M2 T2
    obtain ⟨k, D, hk, rfl, M, hS, hK, T⟩ := hrel
    have HM := Lib.hid M
    have HSD := Lib.hid hS
    have HK := Lib.hid hK
    clear M hS hK
    have hC := T.A.C
    have hD := T.O.C
    by_cases hlt : k < L.length
    · have e0 := HQ.out (by omega)
      subst e0
      have q0 := ((HR.out.goK HZ.out HK.out (fun hn e => by have := HB.out; omega)) k hlt).1
      have hkey : keyOf Tryz.prog 2 (.int .i64 (L.getD k 0)) = some (.int .i64 (L.getD k 0)) := keyOf_int_mk Tryz.underlying2 (HLW.out k hlt)
      have HKEY := Lib.hid hkey
      have HSN := Lib.hid (HSD.out.one HLR.out hlt)
      clear hkey
      generalize L.getD k 0 = x at *
      go_wp2_with (first
        | (at_mapUpdate; refine wpList_mapUpdate_own _ rfl _ _ _ 70 rfl 2 4 law64 Tryz.underlying70 _ (w.heap.size + 1 + 1) k _ rfl HM.out (by unfold maxLen; omega) _ _ _ rfl rfl HKEY.out _ [] (plainElem_bool Tryz.underlying4 true) ?_; intro w1 hown1 hgrow1))
      refine ⟨⟨k + 1, _, by omega, by go_num, hown1, HSN.out, HK.out.trans (Keeps.of_grownM hgrow1), T.keepB hgrow1 (by omega)⟩, by simp [intOf]; omega⟩
    · obtain rfl : k = L.length := by omega
      have HST := Lib.hid (left_start (s := s) HLL.out HSD.out)
      clear HSD HK HR HQ HZ HB
      obtain ⟨hp, hnp⟩ : s.pods.length ≤ 12 ∧ s.pods.length = d.n0 := by have := OK.out.np; have := HL.out; omega
      have HNP := Lib.hid hnp
      clear hnp
      go_wp2_with fail
      go_loopw [27] (fun i wr => ∃ (k : Nat) (D : DataW Unit), k ≤ s.pods.length ∧ i = .int .i64 k ∧ wr.ownsMap Tryz.prog 2 (plainElem Tryz.prog 4) (w.heap.size + 1 + 1) L.length D ∧ SetD D (leftF d s g k) (leftN d s g k) ∧ Two w wr (planC P0 P1 P2 P3 d.n0 k0 d.n1 k1 d.n2 k2 d.n3 k3 d.l d.p d.t) (stC A0 A1 A2 A3 s.pods.length c0 s.mnts.length c1 s.devs.length c2 s.lks.length c3 s.ph s.co s.ck s.bo s.ba s.lb s.gd s.pr)) (fun i _ => s.pods.length - (intOf i).toNat)
      case atStart => exact ⟨0, _, Nat.zero_le _, rfl, HM.out, HST.out, T⟩
      case round =>
        clear HM HST T hC hD
        obtain ⟨k, D, hk, rfl, M, hS, T⟩ := hrel
        have HM := Lib.hid M
        have HSD := Lib.hid hS
        clear M hS
        have hC := T.A.C
        have hD := T.O.C
        by_cases hlt : k < s.pods.length
        · obtain ⟨b, off, rfl, hb, hc⟩ := (R0.out.below T.A.K (Nat.le_refl _)).cell hlt
          have hp := podCs_at s.pods (i := k) hlt
          have q0 := (hc 0 (by decide)).trans hp.1
          have q1 := (hc 1 (by decide)).trans hp.2
          rw [Nat.add_zero] at q0
          clear hc hp
          have hk0 : k < d.n0 := by have := HNP.out; omega
          have hkey : keyOf Tryz.prog 2 (.int .i64 k) = some (.int .i64 k) := keyOf_int_mk Tryz.underlying2 (WalkArith.wf_i64 (by omega))
          have HKEY := Lib.hid hkey
          clear hkey
          by_cases hx : (podA s.pods k).1 = 0
          · have HN := Lib.hid (left_stay HSD.out hx)
            generalize podA s.pods k = r at q0 q1 hx
            obtain ⟨x, y⟩ := r
            dsimp only at q0 q1 hx
            subst hx
            go_wp2_with fail
            refine ⟨⟨k + 1, D, by omega, by go_num, HM.out.alloc _, HN.out, T.step ((Below.refl _ _).alloc (Nat.le_refl _) _)⟩, by simp [intOf]; omega⟩
          · have HN := Lib.hid (left_drop HSD.out hk0 hx)
            generalize podA s.pods k = r at q0 q1 hx
            obtain ⟨x, y⟩ := r
            dsimp only at q0 q1 hx
            go_wp2_with (first
              | (at_delete; refine wpList_delete_own _ rfl _ _ 70 2 rfl 4 law64 Tryz.underlying70 _ (w.heap.size + 1 + 1) L.length D rfl (HM.out.alloc _) _ _ rfl HKEY.out ?_; intro w1 hown1 hturn1))
            refine ⟨⟨k + 1, _, by omega, by go_num, hown1, HN.out, (T.step ((Below.refl _ _).alloc (Nat.le_refl _) _)).keepB hturn1.grown (by omega)⟩, by simp [intOf]; omega⟩
        · obtain rfl : k = s.pods.length := by omega
          have HE := Lib.hid (left_end (by have := HSD.out; rw [HNP.out] at this; exact this))
          clear HSD
          go_wp2_with fail
          go_ret
          exact ⟨_, _, D, rfl, HM.out, HE.out.1, HE.out.2, T.A.K⟩

set_option maxRecDepth 100000 in
set_option maxHeartbeats 4000000 in
theorem implHealthyIn_any (pv sv : Value) (d : PlanD) (s : StD) (g : Int) (w : World) (hp : IsPlan w w.heap.size pv d) (hs : IsSt w w.heap.size sv s) :
    Calls Tryz.prog 13 #[pv, sv, .int .i64 g] w fun e w' => e = .returned (.int .i64 (if stOkB d s && inB g 0 (d.n1 - 1) then healthyN d s g else -1)) ∧ Below w.heap.size w w' := by
  have HP := Lib.hid hp
  have HS := Lib.hid hs
  obtain ⟨⟨P0, P1, P2, P3, k0, k1, k2, k3, rfl, -, -, -, -⟩, b0, b1, b2, b3⟩ := hp
  obtain ⟨⟨A0, A1, A2, A3, c0, c1, c2, c3, rfl, -, -, -, -⟩, f0, f1, f2, f3⟩ := hs
  unfold maxLen at b0 b1 b2 b3 f0 f1 f2 f3
  have T0 := Two.start w (planC P0 P1 P2 P3 d.n0 k0 d.n1 k1 d.n2 k2 d.n3 k3 d.l d.p d.t) (stC A0 A1 A2 A3 s.pods.length c0 s.mnts.length c1 s.devs.length c2 s.lks.length c3 s.ph s.co s.ck s.bo s.ba s.lb s.gd s.pr) 32 38
  obtain ⟨ans, hans⟩ : ∃ ans, (if stOkB d s && inB g 0 (d.n1 - 1) then healthyN d s g else -1) = ans := ⟨_, rfl⟩
  rw [hans]
  have HANS := Lib.hid hans
  clear hans
  go_enter Tryz.func13, Tryz.ntmps13
  go_wp2_with fail
  refine (implStateOk_any _ _ d s _ ((HP.out.below T0.A.K (Nat.le_refl _)).more T0.A.K.size) ((HS.out.below T0.A.K (Nat.le_refl _)).more T0.A.K.size)).mono ?_
  rintro e w1 ⟨rfl, hb⟩
  have T1 := T0.step hb
  have hC := T1.A.C
  have hD := T1.O.C
  clear hb T0
  cases hok : stOkB d s
  · have OKB := Lib.hid hok
    clear hok
    go_wp2
    all_goals (go_ret; exact ⟨ret_int (by rw [← HANS.out, OKB.out]; rfl), T1.A.K⟩)
  · have OK := Lib.hid (stOkB_iff.1 hok)
    have OKB := Lib.hid hok
    clear hok
    go_wp2_with fail
    refine (isIndex_any _ _ _).mono ?_
    rintro e w2 ⟨rfl, rfl⟩
    cases hin : inB g 0 (d.n1 - 1)
    · have HIN := Lib.hid hin
      clear hin
      go_wp2
      all_goals (go_ret; exact ⟨ret_int (by rw [← HANS.out, OKB.out, HIN.out]; rfl), T1.A.K⟩)
    · have HIN := Lib.hid hin
      clear hin
      go_wp2_with fail
      refine (implLeftIn_any _ _ d s g _ ((HP.out.below T1.A.K (Nat.le_refl _)).more T1.A.K.size) ((HS.out.below T1.A.K (Nat.le_refl _)).more T1.A.K.size) OK.out).mono ?_
      rintro e w3 ⟨B, n, D, rfl, hown, -, hsz, hb⟩
      have T3 := T1.step hb
      have HSZ := Lib.hid hsz
      have HO := Lib.hid hown
      clear hb T1 hC hD hown hsz
      go_wp2_with (at_len; refine wpList_len_own _ rfl _ 70 rfl 2 4 Tryz.underlying70 _ B n D rfl HO.out ?_)
      go_ret
      exact ⟨ret_int (by rw [← HANS.out, OKB.out, HIN.out, HSZ.out]; rfl), T3.A.K⟩

set_option maxRecDepth 100000 in
set_option maxHeartbeats 4000000 in
theorem implMayEvict_any (pv sv : Value) (d : PlanD) (s : StD) (a : Int) (w : World) (hp : IsPlan w w.heap.size pv d) (hs : IsSt w w.heap.size sv s) :
    Calls Tryz.prog 10 #[pv, sv, .int .i64 a] w fun e w' => e = .returned (.bool (stOkB d s && mayEvictB d s a)) ∧ Below w.heap.size w w' := by
  have HP := Lib.hid hp
  have HS := Lib.hid hs
  obtain ⟨⟨P0, P1, P2, P3, k0, k1, k2, k3, rfl, s0, s1, -, -⟩, b0, b1, b2, b3⟩ := hp
  obtain ⟨⟨A0, A1, A2, A3, c0, c1, c2, c3, rfl, -, -, -, -⟩, f0, f1, f2, f3⟩ := hs
  have S0 := Lib.hid s0
  have S1 := Lib.hid s1
  unfold maxLen at b0 b1 b2 b3 f0 f1 f2 f3
  clear s0 s1
  have T0 := Two.start w (planC P0 P1 P2 P3 d.n0 k0 d.n1 k1 d.n2 k2 d.n3 k3 d.l d.p d.t) (stC A0 A1 A2 A3 s.pods.length c0 s.mnts.length c1 s.devs.length c2 s.lks.length c3 s.ph s.co s.ck s.bo s.ba s.lb s.gd s.pr) 32 38
  obtain ⟨ans, hans⟩ : ∃ ans, (stOkB d s && mayEvictB d s a) = ans := ⟨_, rfl⟩
  rw [hans]
  have HANS := Lib.hid hans
  clear hans
  go_enter Tryz.func10, Tryz.ntmps10
  go_wp2_with fail
  refine (implStateOk_any _ _ d s _ ((HP.out.below T0.A.K (Nat.le_refl _)).more T0.A.K.size) ((HS.out.below T0.A.K (Nat.le_refl _)).more T0.A.K.size)).mono ?_
  rintro e w1 ⟨rfl, hb⟩
  have T1 := T0.step hb
  have hC := T1.A.C
  have hD := T1.O.C
  clear hb T0
  cases hok : stOkB d s
  · have OKB := Lib.hid hok
    clear hok
    go_wp2
    all_goals (go_ret; exact ⟨ret_bool (by rw [← HANS.out, OKB.out]; rfl), T1.A.K⟩)
  · have OK := Lib.hid (stOkB_iff.1 hok)
    have OKB := Lib.hid hok
    clear hok
    cases hph : (s.ph != 2)
    case true =>
      have HPH : Hid (¬ s.ph = 2) := Lib.hid (by simpa using hph)
      go_wp2
      all_goals (go_ret; exact ⟨ret_bool (by rw [← HANS.out, OKB.out]; simp [mayEvictB, HPH.out]), T1.A.K⟩)
    case false =>
      have HPH : Hid (s.ph = 2) := Lib.hid (by simpa using hph)
      go_wp2_with fail
      refine (isIndex_any _ _ _).mono ?_
      rintro e w2 ⟨rfl, rfl⟩
      cases hin : inB a 0 (d.n0 - 1)
      · have HIN := Lib.hid hin
        clear hin
        go_wp2
        all_goals (go_ret; exact ⟨ret_bool (by rw [← HANS.out, OKB.out]; simp [mayEvictB, HIN.out]), T1.A.K⟩)
      · have HIN := Lib.hid hin
        obtain ⟨i, rfl, hi⟩ := index_nat (a := a) (n := d.n0) (by rw [hin]; decide)
        clear hin hph
        obtain ⟨m, hm, hml⟩ := pod_group OK.out.plan hi
        have HANS2 : Hid (ans = (hP d s m i && decide (d.x1 m < healthyN d s m))) := Lib.hid (by
          rw [← HANS.out, OKB.out, mayEvictB, HIN.out, HPH.out, Int.toNat_natCast, hm, Int.toNat_natCast]
          simp [podAt, podA, hP, hm])
        obtain ⟨b, off, rfl, hb, q0, -, -, -⟩ := (S0.out.own T1.A).cell4 hi
        rw [hm] at q0
        clear hm
        go_wp2_with fail
        refine (implLeftIn_any _ _ d s m _ ((HP.out.below T1.A.K (Nat.le_refl _)).more T1.A.K.size) ((HS.out.below T1.A.K (Nat.le_refl _)).more T1.A.K.size) OK.out).mono ?_
        rintro e w3 ⟨B, n, D, rfl, hown, hat, hsz, hb3⟩
        have T3 := T1.step hb3
        obtain ⟨b1_, off1, rfl, hb1, r0⟩ := (S1.out.below T3.A.K (Nat.le_refl _)).cell1 hml
        have hi12 : i < 1000 := by have := planOk_lock OK.out.plan; omega
        have hkey : keyOf Tryz.prog 2 (.int .i64 i) = some (.int .i64 i) := keyOf_int_mk Tryz.underlying2 (WalkArith.wf_i64 (by omega))
        have hlk : ∀ q, (Instr.lookup 70 (.map (some B)) (.int .i64 i) false).run Tryz.prog (w3.drewN q) = .ok (.bool (hP d s m i)) (w3.drewN q) := fun q => by
          have hown' : (w3.drewN q).ownsMap Tryz.prog 2 (plainElem (H := Unit) Tryz.prog 4) B n D := hown.kept (row := none) ⟨(below_drewN (Below.refl w3.heap.size w3) q).os, (below_drewN (Below.refl w3.heap.size w3) q).tape, (below_drewN (Below.refl w3.heap.size w3) q).output, (below_drewN (Below.refl w3.heap.size w3) q).size, fun k hk _ => (below_drewN (Below.refl w3.heap.size w3) q).block k hk⟩ (by simp)
          obtain ⟨v, ps, hrun, hv⟩ := hown'.lookup law64 Tryz.underlying70 (zero_bool _) (plainElem_bool Tryz.underlying4 false) hkey
          obtain ⟨x, rfl, hx⟩ := plainElem_bool_is Tryz.underlying4 hv
          rw [hat i hi] at hx
          simp only [Prod.mk.injEq, DataW.lit.injEq, Lit.bool.injEq] at hx
          rw [hx.1]
          exact hrun
        have hlen : ∀ q ty, (Builtin.len_ #[70] ty #[.map (some B)]).run Tryz.prog (w3.drewN q) = .ok (.int .i64 (healthyN d s m)) (w3.drewN q) := fun q ty => by
          have hown' : (w3.drewN q).ownsMap Tryz.prog 2 (plainElem (H := Unit) Tryz.prog 4) B n D := hown.kept (row := none) ⟨(below_drewN (Below.refl w3.heap.size w3) q).os, (below_drewN (Below.refl w3.heap.size w3) q).tape, (below_drewN (Below.refl w3.heap.size w3) q).output, (below_drewN (Below.refl w3.heap.size w3) q).size, fun k hk _ => (below_drewN (Below.refl w3.heap.size w3) q).block k hk⟩ (by simp)
          rw [← hsz]
          exact hown'.len Tryz.underlying70 ty
        clear hown hat hsz hkey hb3 T1 hC hD q0 hb
        have hC := T3.A.C
        have hD := T3.O.C
        generalize healthyN d s m = hn at *
        cases hp : hP d s m i
        · rw [hp] at hlk HANS2
          go_wp2_with fail
          go_quiet (fail)
          go_wp2
          all_goals (go_ret; exact ⟨ret_bool (by rw [HANS2.out]; rfl), below_drewN T3.A.K _⟩)
        · rw [hp] at hlk HANS2
          go_wp2_with fail
          go_quiet (fail)
          go_wp2
          all_goals (go_ret; exact ⟨ret_bool (by rw [HANS2.out]; simp), below_drewN T3.A.K _⟩)
end Go.Proofs.YtfibgpikjfopgaaGreat
/- Xe -/
set_option linter.unusedVariables false
namespace Go.Proofs.YtfibgpikjfopgaaGreat
open Go.RowKit

/-- A state in a box, the call's own, its lists as well. -/
def BxS (w : World) (B g : Nat) (v : Value) (s : StD) : Prop := OwnSt w B v s ∧ ∃ cs : Array Value, v = .agg cs ∧ BoxS w B g cs.toList
/-- What a change answers. -/
def Chg (w : World) (B g : Nat) (v : Value) (t : StD) (e : Ending) (w' : World) : Prop := e = .returned (.tuple #[]) ∧ (∃ v', BxS w' B g v' t) ∧ Keeps (fun b => b = g ∨ rowsOf v b) w w'
theorem keep_other {w w' : World} {B B' e e' k k' n n' g : Nat} {v v' : Value} {xs xs' : List Value} (h : w.ownsRow B e k v n xs) (h' : w.ownsRow B' e' k' v' n' xs') (hv' : v'.ownBlock = some g) (hne : e ≠ e') (kp : Keeps (· = g) w w') : w'.ownsRow B e k v n xs :=
  ownsRow_keeps h kp fun r hr e => hne (row_type h h' (e ▸ hr) hv')
theorem keeps_set (w : World) (g o : Nat) (u : Value) : Keeps (· = g) w (w.setCell ⟨g, o, none⟩ u) := (Keeps.refl (· = g) w).set rfl u
theorem box_apart {w : World} {B B' e k n g : Nat} {v : Value} {xs xs' : List Value} (h : w.ownsRow B e k v n xs) (X : BoxS w B' g xs') (hne : e ≠ 38) : v.ownBlock ≠ some g := fun hv => hne (row_type h X hv rfl)

end Go.Proofs.YtfibgpikjfopgaaGreat
/- Xf -/
set_option linter.unusedVariables false
namespace Go.Proofs.YtfibgpikjfopgaaGreat
open Go.RowKit

end Go.Proofs.YtfibgpikjfopgaaGreat
/- Xg -/
set_option linter.unusedVariables false
namespace Go.Proofs.YtfibgpikjfopgaaGreat
open Go.RowKit

end Go.Proofs.YtfibgpikjfopgaaGreat
/- Xi -/
set_option linter.unusedVariables false
namespace Go.Proofs.YtfibgpikjfopgaaGreat
open Go.RowKit

end Go.Proofs.YtfibgpikjfopgaaGreat
