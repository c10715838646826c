/-
  The model's draws of a plan, a state and a number (chapter 8).
-/
import Derived.Test.YtfibgpikjfopgaaGreatMZxZm
import Derived.Test.YtfibgpikjfopgaaGreatMZxPu
import Derived.Test.YtfibgpikjfopgaaGreatMZxPv
import Derived.Test.YtfibgpikjfopgaaGreatMZ10
import Derived.Test.YtfibgpikjfopgaaGreatMZxWc
import Derived.Test.YtfibgpikjfopgaaGreatMZ4
import Derived.Test.YtfibgpikjfopgaaGreatMZxDq
import Derived.Test.YtfibgpikjfopgaaGreatMZxZk
import Derived.Test.YtfibgpikjfopgaaGreatMZ0
import Derived.Deep.DeepCutAuto
/- Zn -/
namespace Go.Proofs.YtfibgpikjfopgaaGreat
open Go.RowKit

theorem l5DrawAny_any (g : Nat) (w : World) (h : Cur 110 .i64 w g) : Calls Tryz.prog 32 #[.pointer (some ⟨g, 0, none⟩)] w (DrawnPS g w) :=
  l5DrawAny_of drawPlan_any (drawAny_of (Lib.hid drawPlan_any)) g w h
theorem l15Draw_any (g : Nat) (w : World) (h : Cur 110 .i64 w g) : Calls Tryz.prog 53 #[.pointer (some ⟨g, 0, none⟩)] w (DrawnAg g w) := l15Draw_of drawPlan_any g w h
end Go.Proofs.YtfibgpikjfopgaaGreat
/- Zo -/
set_option linter.unusedVariables false
namespace Go.Proofs.YtfibgpikjfopgaaGreat
open Go.RowKit

def GivesPS (w : World) (e : Ending) (w' : World) : Prop :=
  ∃ v0 v1 v2 v3 d vs s, e = .returned (.tuple #[.agg #[v0, v1, v2, v3, .int .i64 d.l, .int .i64 d.p, .int .i64 d.t], vs]) ∧ Lists w' w.heap.size v0 v1 v2 v3 d ∧ OwnSt w' w.heap.size vs s ∧ PlSmall d ∧ StSmall s ∧ Below w.heap.size w w'
theorem store_state {ops : Array Oper} {rest : List Oper} {dst : Option Tmp} {ty : TypeId} {pos : String} {after : Array Edge} {a : Act} {w : World} {Q : Exit → Act → World → Prop} {g x y : Nat} {cs old : Array Value}
    (hx : a.eval (.tmp x) = .pointer (some ⟨g, 0, none⟩)) (hy : a.eval (.tmp y) = .agg cs) (hg : w.heap[g]? = some (.cells old 38)) (hi : (Tryz.prog.info? 38).map (·.size) = some cs.size) (hold : old.size = cs.size) (h1 : cs.all (·.oneCell') = true)
    (h : wpList Tryz.prog ops Q rest (a.put dst undef) (w.setRow g cs)) : wpList Tryz.prog ops Q (Oper.mk dst (.store 38 (.tmp x) (.tmp y)) ty pos after none :: rest) a w :=
  wpList_store_row rfl 38 (.tmp x) (.tmp y) rfl g cs hx hy 38 old hg hi hold h1 h
end Go.Proofs.YtfibgpikjfopgaaGreat
/- Na -/
set_option linter.unusedVariables false
namespace Go.Proofs.YtfibgpikjfopgaaGreat
open Go.RowKit

theorem load_state {ops : Array Oper} {rest : List Oper} {dst : Option Tmp} {ty : TypeId} {pos : String} {after : Array Edge} {a : Act} {w : World} {Q : Exit → Act → World → Prop} {g x : Nat} {cs : Array Value}
    (hx : a.eval (.tmp x) = .pointer (some ⟨g, 0, none⟩)) (hg : w.heap[g]? = some (.cells cs 38)) (hi : (Tryz.prog.info? 38).map (·.size) = some cs.size)
    (h : wpList Tryz.prog ops Q rest (a.put dst (.agg cs)) w) : wpList Tryz.prog ops Q (Oper.mk dst (.load 38 (.tmp x)) ty pos after none :: rest) a w :=
  wpList_load_row rfl 38 (.tmp x) rfl g hx _ cs _ _ hg Tryz.underlying38 rfl hi h
theorem runLs_append {d : PlanD} : ∀ (a b : List (List RecD)) (s : StD), runLs d s (a ++ b) = (runLs d s a).bind fun x => runLs d x b
  | [], b, s => rfl
  | l :: a, b, s => by
    simp only [List.cons_append, runLs]
    cases runR d s l with
    | none => rfl
    | some y => exact runLs_append a b y
theorem ls_split {ls : List (List RecD)} {k : Nat} (hk : k < ls.length) : ls = ls.take k ++ listAt ls k :: ls.drop (k + 1) := by
  have h1 := List.take_append_drop k ls
  rw [List.drop_eq_getElem_cons hk] at h1
  have h2 : listAt ls k = ls[k] := by simp [listAt, List.getD, hk]
  rw [h2]
  exact h1.symm
theorem runLs_stop {d : PlanD} {s t : StD} {ls : List (List RecD)} {k : Nat} (hk : k < ls.length) (h : runLs d s (ls.take k) = some t) (hr : runR d t (listAt ls k) = none) : runLs d s ls = none := by
  rw [ls_split hk, runLs_append, h]
  simp [runLs, hr]
theorem runLs_next {d : PlanD} {s t x : StD} {ls : List (List RecD)} {k : Nat} (hk : k < ls.length) (h : runLs d s (ls.take k) = some t) (hr : runR d t (listAt ls k) = some x) : runLs d s (ls.take (k + 1)) = some x := by
  have e : ls.take (k + 1) = ls.take k ++ [listAt ls k] := by
    rw [List.take_add_one]
    congr 1
    simp [listAt, List.getD, hk]
  rw [e, runLs_append, h]
  simp [runLs, hr]
def replayD (d : PlanD) (ls : List (List RecD)) : StD × Bool := match runLs d (newS d) ls with | some x => (x, true) | none => (zeroS, false)

set_option maxRecDepth 100000 in
set_option maxHeartbeats 8000000 in
theorem l15Replay_any (pv lv : Value) (d : PlanD) (ls : List (List RecD)) (w : World) (hp : IsPlan w w.heap.size pv d) (hl : St w w.heap.size lv ls) (hok : planOkB d = true) :
    Calls Tryz.prog 39 #[pv, lv] w (MadeSB w (replayD d ls)) := by
  have HP := Lib.hid hp
  have HL := Lib.hid hl
  have HOK := Lib.hid (newS_ok hok)
  have HI : Hid ((Tryz.prog.info? 38).map (·.size) = some 12) := Lib.hid (by kernel_rfl)
  obtain ⟨⟨P0, P1, P2, P3, k0, k1, k2, k3, rfl, -, -, -, -⟩, -, -, -, -⟩ := hp
  obtain ⟨⟨LA, lc, rfl, -⟩, hll⟩ := hl
  unfold maxLen at hll
  obtain ⟨ans, hans⟩ : ∃ ans, replayD d ls = ans := ⟨_, rfl⟩
  rw [hans]
  have HANS := Lib.hid hans
  clear hans hok
  have XP := (Own.box w (planC P0 P1 P2 P3 d.n0 k0 d.n1 k1 d.n2 k2 d.n3 k3 d.l d.p d.t) 32).alloc (.cells (stC none none none none 0 0 0 0 0 0 0 0 0 false 0 0 0 0 0 0) 38)
  have HZ := heap_alloc_new (w.alloc (.cells (planC P0 P1 P2 P3 d.n0 k0 d.n1 k1 d.n2 k2 d.n3 k3 d.l d.p d.t) 32)) (.cells (stC none none none none 0 0 0 0 0 0 0 0 0 false 0 0 0 0 0 0) 38)
  simp only [heap_size_alloc_] at HZ
  have K := XP.K
  go_enter Tryz.func39, Tryz.ntmps39
  have hC := XP.C
  go_wp2_with fail
  generalize (w.alloc (.cells (planC P0 P1 P2 P3 d.n0 k0 d.n1 k1 d.n2 k2 d.n3 k3 d.l d.p d.t) 32)).alloc (.cells (stC none none none none 0 0 0 0 0 0 0 0 0 false 0 0 0 0 0 0) 38) = w0 at XP HZ K hC ⊢
  refine (specNewState_any _ d w0 ((HP.out.below K (Nat.le_refl _)).more K.size)).mono ?_
  rintro e w1 ⟨vs, rfl, OT, hb⟩
  replace OT := OT.base K.size
  replace XP := XP.step hb
  replace HZ := (hb.block _ (Array.getElem?_eq_some_iff.1 HZ).1).trans HZ
  replace K := K.trans (hb.mono K.size)
  clear hb hC
  obtain ⟨s0, hs0⟩ : ∃ s, newS d = s := ⟨_, rfl⟩
  rw [hs0] at OT
  have HS0 := Lib.hid hs0
  clear hs0
  obtain ⟨y0, y1, y2, y3, rfl, -⟩ := OT.it
  obtain ⟨⟨B0, e0, rfl⟩, ⟨B1, e1, rfl⟩, ⟨B2, e2, rfl⟩, ⟨B3, e3, rfl⟩⟩ := OT.shapes
  have hz1 := (Array.getElem?_eq_some_iff.1 HZ).1
  have HB := heap_alloc_new w1 (.cells (stC none none none none 0 0 0 0 0 0 0 0 0 false 0 0 0 0 0 0) 38)
  have hb : Below w1.heap.size w1 (w1.alloc (.cells (stC none none none none 0 0 0 0 0 0 0 0 0 false 0 0 0 0 0 0) 38)) := (Below.refl _ _).alloc (Nat.le_refl _) _
  replace XP := XP.step hb
  replace HZ := (hb.block _ (Array.getElem?_eq_some_iff.1 HZ).1).trans HZ
  replace K := K.trans (hb.mono K.size)
  replace OT := OT.below hb
  clear hb
  go_upto_region 2 with (
    (with_reducible refine store_state (x := 6) (y := 11) (g := w1.heap.size) (cs := stC B0 B1 B2 B3 s0.pods.length e0 s0.mnts.length e1 s0.devs.length e2 s0.lks.length e3 s0.ph s0.co s0.ck s0.bo s0.ba s0.lb s0.gd s0.pr) ?_ ?_ HB ?_ ?_ ?_ ?_)
    · rfl
    · rfl
    · exact HI.out
    · rfl
    · simp [Value.oneCell'])
  have kk := keepsRow_ (w1.alloc (.cells (stC none none none none 0 0 0 0 0 0 0 0 0 false 0 0 0 0 0 0) 38)) w1.heap.size (stC B0 B1 B2 B3 s0.pods.length e0 s0.mnts.length e1 s0.devs.length e2 s0.lks.length e3 s0.ph s0.co s0.ck s0.bo s0.ba s0.lb s0.gd s0.pr)
  replace XP := XP.keeps kk (by rintro b rfl; omega) (by show ¬ w.heap.size = w1.heap.size; omega)
  replace HZ := (setRow_other (w1.alloc (.cells (stC none none none none 0 0 0 0 0 0 0 0 0 false 0 0 0 0 0 0) 38)) w1.heap.size _ (stC B0 B1 B2 B3 s0.pods.length e0 s0.mnts.length e1 s0.devs.length e2 s0.lks.length e3 s0.ph s0.co s0.ck s0.bo s0.ba s0.lb s0.gd s0.pr) (by omega)).trans HZ
  replace OT := OT.keepsT kk HB (by decide)
  replace K := belowRow_ K (B := w1.heap.size) (by omega) (stC B0 B1 B2 B3 s0.pods.length e0 s0.mnts.length e1 s0.devs.length e2 s0.lks.length e3 s0.ph s0.co s0.ck s0.bo s0.ba s0.lb s0.gd s0.pr)
  replace HB := setRow_heap _ _ _ (stC B0 B1 B2 B3 s0.pods.length e0 s0.mnts.length e1 s0.devs.length e2 s0.lks.length e3 s0.ph s0.co s0.ck s0.bo s0.ba s0.lb s0.gd s0.pr) _ _ HB
  clear kk
  generalize (w1.alloc (.cells (stC none none none none 0 0 0 0 0 0 0 0 0 false 0 0 0 0 0 0) 38)).setRow w1.heap.size (stC B0 B1 B2 B3 s0.pods.length e0 s0.mnts.length e1 s0.devs.length e2 s0.lks.length e3 s0.ph s0.co s0.ck s0.bo s0.ba s0.lb s0.gd s0.pr) = w2 at XP HZ OT K HB ⊢
  generalize w1.heap.size = g at HB hz1 ⊢
  go_wp2_with fail
  go_loopw [7] (fun i wr => ∃ (k : Nat) (t : StD) (C0 C1 C2 C3 : Option Addr) (f0 f1 f2 f3 : Nat), k ≤ ls.length ∧ i = .int .i64 k ∧ runLs d s0 (ls.take k) = some t ∧ StOk d t ∧ Below w.heap.size w wr ∧ Own w wr w.heap.size (planC P0 P1 P2 P3 d.n0 k0 d.n1 k1 d.n2 k2 d.n3 k3 d.l d.p d.t) ∧ wr.heap[w.heap.size + 1]? = some (.cells (stC none none none none 0 0 0 0 0 0 0 0 0 false 0 0 0 0 0 0) 38) ∧ wr.heap[g]? = some (.cells (stC C0 C1 C2 C3 t.pods.length f0 t.mnts.length f1 t.devs.length f2 t.lks.length f3 t.ph t.co t.ck t.bo t.ba t.lb t.gd t.pr) 38) ∧ OwnSt wr w.heap.size (.agg (stC C0 C1 C2 C3 t.pods.length f0 t.mnts.length f1 t.devs.length f2 t.lks.length f3 t.ph t.co t.ck t.bo t.ba t.lb t.gd t.pr)) t) (fun i _ => ls.length - (intOf i).toNat)
  case atStart => exact ⟨0, s0, B0, B1, B2, B3, e0, e1, e2, e3, Nat.zero_le _, rfl, rfl, by rw [← HS0.out]; exact HOK.out, K, XP, HZ, HB, OT⟩
  case round =>
    clear K XP HZ HB OT
    obtain ⟨k, t, C0, C1, C2, C3, f0, f1, f2, f3, hk, rfl, hrun, ht, K, XP, HZ, HB, OT⟩ := hrel
    have HRUN := Lib.hid hrun
    have HT := Lib.hid ht
    clear hrun ht
    by_cases hlt : k < ls.length
    · obtain ⟨⟨LA', lc', hv, hcells⟩, -⟩ := HL.out
      injection hv with hv1 hv2 hv3
      subst hv1 hv3
      obtain ⟨bl, off, rfl, hql, hcell⟩ := hcells (by omega)
      obtain ⟨u, hu, hrt⟩ := hcell k hlt
      have HRT := Lib.hid hrt
      obtain ⟨⟨AL, cl, rfl, -⟩, -⟩ := hrt
      have q0 := (K.cell (p := ⟨bl, off + k, none⟩) hql).trans hu
      clear hcell hu hcells hv2
      obtain ⟨x, xb, hxb⟩ : ∃ x b, allS d t (listAt ls k) = (x, b) := by
        generalize allS d t (listAt ls k) = q
        exact ⟨q.1, q.2, rfl⟩
      have HNO : Hid (xb = false → ans = (zeroS, false)) := Lib.hid fun e => by
        subst e
        cases hr : runR d t (listAt ls k) with
        | none =>
          rw [← HANS.out]
          unfold replayD
          rw [HS0.out, runLs_stop hlt HRUN.out hr]
        | some y =>
          rw [allS_some hr] at hxb
          injection hxb with _ h2
          cases h2
      have HYES : Hid (xb = true → runLs d s0 (ls.take (k + 1)) = some x ∧ StOk d x) := Lib.hid fun e => by
        subst e
        cases hr : runR d t (listAt ls k) with
        | none =>
          rw [allS_none hr] at hxb
          injection hxb with _ h2
          cases h2
        | some y =>
          rw [allS_some hr] at hxb
          injection hxb with h1 _
          subst h1
          exact ⟨runLs_next hlt HRUN.out hr, runR_ok HT.out hr⟩
      go_upto_region 5 with fail
      refine wp_region_noPanic ?_
      refine wp_region_held_drew (S := fun W => (∀ o, W.cell? ⟨w.heap.size, o, none⟩ = (planC P0 P1 P2 P3 d.n0 k0 d.n1 k1 d.n2 k2 d.n3 k3 d.l d.p d.t)[o]?) ∧ (∀ o, W.cell? ⟨g, o, none⟩ = (stC C0 C1 C2 C3 t.pods.length f0 t.mnts.length f1 t.devs.length f2 t.lks.length f3 t.ph t.co t.ck t.bo t.ba t.lb t.gd t.pr)[o]?) ∧ W.cell? ⟨bl, off + k, none⟩ = some (.slice AL (listAt ls k).length cl)) (by kernel_rfl) ⟨XP.drew.C, fun o => cell_of_row _ _ o _ _ _ HB, q0⟩ (fun _ => ?_)
      replace q0 : wr.drew.cell? ⟨bl, off + k, none⟩ = some (.slice AL (listAt ls k).length cl) := q0
      rw [← heap_drew wr] at HZ HB
      replace XP := XP.drew
      replace OT := OT.below (Below.refl _ _).drew
      replace K := K.drew
      generalize wr.drew = v0 at XP HZ HB q0 OT K ⊢
      refine wpAnyH_take (i := 2) (v := ?_) rfl (by kernel_rfl) (by kernel_rfl) (by kernel_rfl) (fun _ _ _ h => h) (Or.inl ⟨by rfl, ?_⟩) ⟨XP.C, fun o => cell_of_row _ _ o _ _ _ HB, q0⟩ ?_
      rotate_left 1
      · intro w hSw
        obtain ⟨hs1, hs2, hs3⟩ := hSw
        go_simp
        try with_reducible rfl
      change wpAnyH _ _ _ _ _ _ _ (Act.put _ (some 21) _) _
      dsimp only [Act.put]
      refine wpAnyH_take (i := 3) (v := ?_) rfl (by kernel_rfl) (by kernel_rfl) (by kernel_rfl) (fun _ _ _ h => h) (Or.inl ⟨by rfl, ?_⟩) ⟨XP.C, fun o => cell_of_row _ _ o _ _ _ HB, q0⟩ ?_
      rotate_left 1
      · intro w hSw
        obtain ⟨hs1, hs2, hs3⟩ := hSw
        go_simp
        try with_reducible rfl
      change wpAnyH _ _ _ _ _ _ _ (Act.put _ (some 22) _) _
      dsimp only [Act.put]
      refine wpAnyH_take (i := 4) (v := ?_) rfl (by kernel_rfl) (by kernel_rfl) (by kernel_rfl) (fun _ _ _ h => h) (Or.inl ⟨by rfl, ?_⟩) ⟨XP.C, fun o => cell_of_row _ _ o _ _ _ HB, q0⟩ ?_
      rotate_left 1
      · intro w hSw
        obtain ⟨hs1, hs2, hs3⟩ := hSw
        go_simp
        try with_reducible rfl
      change wpAnyH _ _ _ _ _ _ _ (Act.put _ (some 23) _) _
      dsimp only [Act.put]
      refine wpAnyH_take (i := 5) (v := ?_) rfl (by kernel_rfl) (by kernel_rfl) (by kernel_rfl) (fun _ _ _ h => h) (Or.inl ⟨by rfl, ?_⟩) ⟨XP.C, fun o => cell_of_row _ _ o _ _ _ HB, q0⟩ ?_
      rotate_left 1
      · intro w hSw
        obtain ⟨hs1, hs2, hs3⟩ := hSw
        go_simp
        try with_reducible rfl
      change wpAnyH _ _ _ _ _ _ _ (Act.put _ (some 24) _) _
      dsimp only [Act.put]
      refine wpAnyH_take (i := 0) (v := ?_) rfl (by kernel_rfl) (by kernel_rfl) (by kernel_rfl) (fun _ _ _ h => h) (Or.inl ⟨by rfl, ?_⟩) ⟨XP.C, fun o => cell_of_row _ _ o _ _ _ HB, q0⟩ ?_
      rotate_left 1
      · intro w hSw
        obtain ⟨hs1, hs2, hs3⟩ := hSw
        go_simp
        try with_reducible rfl
      change wpAnyH _ _ _ _ _ _ _ (Act.put _ (some 19) _) _
      dsimp only [Act.put]
      refine wpAnyH_take (i := 1) (v := ?_) rfl (by kernel_rfl) (by kernel_rfl) (by kernel_rfl) (fun _ _ _ h => h) (Or.inl ⟨by rfl, ?_⟩) ⟨XP.C, fun o => cell_of_row _ _ o _ _ _ HB, q0⟩ ?_
      rotate_left 1
      · intro w hSw
        obtain ⟨hs1, hs2, hs3⟩ := hSw
        go_simp
        try with_reducible rfl
      change wpAnyH _ _ _ _ _ _ _ (Act.put _ (some 20) _) _
      dsimp only [Act.put]
      refine wpAnyH_ready (rs := [6, 10]) (by kernel_rfl) (by simp) ?_
      refine AllReadyH.cons rfl (fun K' hK => ?_) ?_
      · skip
        go_simp
        go_at_call 44
        have hall := l6All_any _ _ (.slice AL (listAt ls k).length cl) d t (listAt ls k) v0 ((HP.out.below K (Nat.le_refl _)).more K.size) (OT.isR (fits_ok HT.out)) ((HRT.out.below K (Nat.le_refl _)).more K.size) HT.out
        rw [hxb] at hall
        refine hall.mono ?_
        clear hall
        rintro e v1 ⟨vx, rfl, OX, hb⟩
        replace OX := OX.base K.size
        obtain ⟨y0, y1, y2, y3, rfl, -⟩ := OX.it
        obtain ⟨⟨D0, m0, rfl⟩, ⟨D1, m1, rfl⟩, ⟨D2, m2, rfl⟩, ⟨D3, m3, rfl⟩⟩ := OX.shapes
        replace q0 := (hb.cell (p := ⟨bl, off + k, none⟩) (Nat.lt_of_lt_of_le hql K.size)).trans q0
        try replace H8 := (hb.block _ (Array.getElem?_eq_some_iff.1 H8).1).trans H8
        replace K := K.trans (hb.mono K.size)
        replace XP := XP.step hb
        replace HZ := (hb.block _ (Array.getElem?_eq_some_iff.1 HZ).1).trans HZ
        replace HB := (hb.block _ (Array.getElem?_eq_some_iff.1 HB).1).trans HB
        replace OT := OT.below hb
        clear hb
        go_wp2_with fail
        refine hK.out _ _ ⟨XP.C, fun o => cell_of_row _ _ o _ _ _ HB, q0⟩ (fun _ => ?_)
        clear hK K'
        try (change wpAnyH _ _ _ _ _ _ _ (Act.put _ (some 25) _) _; dsimp only [Act.put])
        refine wpAnyH_take (i := 7) (v := ?_) rfl (by kernel_rfl) (by kernel_rfl) (by kernel_rfl) (fun _ _ _ h => h) (Or.inl ⟨by rfl, ?_⟩) ⟨XP.C, fun o => cell_of_row _ _ o _ _ _ HB, q0⟩ ?_
        rotate_left 1
        · intro w hSw
          obtain ⟨hs1, hs2, hs3⟩ := hSw
          go_simp
          try with_reducible rfl
        change wpAnyH _ _ _ _ _ _ _ (Act.put _ (some 18) _) _
        dsimp only [Act.put]
        refine wpAnyH_take (i := 8) (v := ?_) rfl (by kernel_rfl) (by kernel_rfl) (by kernel_rfl) (fun _ _ _ h => h) (Or.inl ⟨by rfl, ?_⟩) ⟨XP.C, fun o => cell_of_row _ _ o _ _ _ HB, q0⟩ ?_
        rotate_left 1
        · intro w hSw
          obtain ⟨hs1, hs2, hs3⟩ := hSw
          go_simp
          try with_reducible rfl
        change wpAnyH _ _ _ _ _ _ _ (Act.put _ (some 26) _) _
        dsimp only [Act.put]
        refine wpAnyH_take (i := 9) (v := ?_) rfl (by kernel_rfl) (by kernel_rfl) (by kernel_rfl) (fun _ _ _ h => h) (Or.inl ⟨by rfl, ?_⟩) ⟨XP.C, fun o => cell_of_row _ _ o _ _ _ HB, q0⟩ ?_
        rotate_left 1
        · intro w hSw
          obtain ⟨hs1, hs2, hs3⟩ := hSw
          go_simp
          try with_reducible rfl
        change wpAnyH _ _ _ _ _ _ _ (Act.put _ (some 27) _) _
        dsimp only [Act.put]
        refine wpAnyH_ready (rs := [10]) (by kernel_rfl) (by simp) ?_
        refine AllReadyH.cons rfl (fun K' hK => ?_) AllReadyH.nil
        go_simp
        have H8 := heap_alloc_new v1 (.cells (stC none none none none 0 0 0 0 0 0 0 0 0 false 0 0 0 0 0 0) 38)
        have hb := (Below.refl v1.heap.size v1).alloc (Nat.le_refl _) (.cells (stC none none none none 0 0 0 0 0 0 0 0 0 false 0 0 0 0 0 0) 38)
        have h8g : g < v1.heap.size := (Array.getElem?_eq_some_iff.1 HB).1
        replace q0 := (hb.cell (p := ⟨bl, off + k, none⟩) (Nat.lt_of_lt_of_le hql K.size)).trans q0
        try replace OX := OX.below hb
        replace K := K.trans (hb.mono K.size)
        replace XP := XP.step hb
        replace HZ := (hb.block _ (Array.getElem?_eq_some_iff.1 HZ).1).trans HZ
        replace HB := (hb.block _ (Array.getElem?_eq_some_iff.1 HB).1).trans HB
        replace OT := OT.below hb
        clear hb
        obtain ⟨v2, hwv⟩ : ∃ W, v1.alloc (.cells (stC none none none none 0 0 0 0 0 0 0 0 0 false 0 0 0 0 0 0) 38) = W := ⟨_, rfl⟩
        rw [hwv] at H8 q0 K XP HZ HB OT ⊢
        try rw [hwv] at OX
        clear hwv
        obtain ⟨R8, hR8⟩ : ∃ R, v1.heap.size = R := ⟨_, rfl⟩
        rw [hR8] at H8 h8g ⊢
        clear hR8
        refine hK.out _ _ ⟨XP.C, fun o => cell_of_row _ _ o _ _ _ HB, q0⟩ (fun _ => ?_)
        clear hK K'
        try (change wpAnyH _ _ _ _ _ _ _ (Act.put _ (some 8) _) _; dsimp only [Act.put])
        refine wpAnyH_ready (rs := [11]) (by kernel_rfl) (by simp) ?_
        refine AllReadyH.cons rfl (fun K' hK => ?_) AllReadyH.nil
        rw [if_pos (by rfl)]
        refine wp_store_row 38 (.tmp 8) (.tmp 26) rfl R8 (stC D0 D1 D2 D3 x.pods.length m0 x.mnts.length m1 x.devs.length m2 x.lks.length m3 x.ph x.co x.ck x.bo x.ba x.lb x.gd x.pr) rfl rfl 38 _ H8 HI.out rfl (by simp [Value.oneCell']) ?_
        have hR0 : w.heap.size < R8 := by omega
        replace q0 := ((keepsRow_ v2 R8 (stC D0 D1 D2 D3 x.pods.length m0 x.mnts.length m1 x.devs.length m2 x.lks.length m3 x.ph x.co x.ck x.bo x.ba x.lb x.gd x.pr)).cell (p := ⟨bl, off + k, none⟩) (Nat.lt_of_lt_of_le hql K.size) (by show ¬ bl = R8; omega)).trans q0
        have kk := keepsRow_ v2 (R8) (stC D0 D1 D2 D3 x.pods.length m0 x.mnts.length m1 x.devs.length m2 x.lks.length m3 x.ph x.co x.ck x.bo x.ba x.lb x.gd x.pr)
        replace K := belowRow_ K (B := R8) (by omega) (stC D0 D1 D2 D3 x.pods.length m0 x.mnts.length m1 x.devs.length m2 x.lks.length m3 x.ph x.co x.ck x.bo x.ba x.lb x.gd x.pr)
        replace XP := XP.keeps kk (by rintro b rfl; omega) (by show ¬ w.heap.size = R8; omega)
        replace HZ := (setRow_other _ (R8) (w.heap.size + 1) (stC D0 D1 D2 D3 x.pods.length m0 x.mnts.length m1 x.devs.length m2 x.lks.length m3 x.ph x.co x.ck x.bo x.ba x.lb x.gd x.pr) (by omega)).trans HZ
        replace HB := (setRow_other _ (R8) (g) (stC D0 D1 D2 D3 x.pods.length m0 x.mnts.length m1 x.devs.length m2 x.lks.length m3 x.ph x.co x.ck x.bo x.ba x.lb x.gd x.pr) (by omega)).trans HB
        replace OT := OT.keepsT kk H8 (by decide)
        replace OX := OX.keepsT kk H8 (by decide)
        replace H8 := setRow_heap _ _ _ (stC D0 D1 D2 D3 x.pods.length m0 x.mnts.length m1 x.devs.length m2 x.lks.length m3 x.ph x.co x.ck x.bo x.ba x.lb x.gd x.pr) _ _ H8
        clear kk
        generalize v2.setRow R8 (stC D0 D1 D2 D3 x.pods.length m0 x.mnts.length m1 x.devs.length m2 x.lks.length m3 x.ph x.co x.ck x.bo x.ba x.lb x.gd x.pr) = v3 at q0 H8 OX K XP HZ HB OT ⊢
        refine hK.out _ _ ⟨XP.C, fun o => cell_of_row _ _ o _ _ _ HB, q0⟩ (fun _ => ?_)
        clear hK K'
        try (change wpAnyH _ _ _ _ _ _ _ (Act.put _ none _) _; dsimp only [Act.put])
        refine wpAnyH_ready (rs := [12]) (by kernel_rfl) (by simp) ?_
        refine AllReadyH.cons rfl (fun K' hK => ?_) AllReadyH.nil
        go_simp
        refine hK.out _ _ ⟨XP.C, fun o => cell_of_row _ _ o _ _ _ HB, q0⟩ (fun _ => ?_)
        clear hK K'
        try (change wpAnyH _ _ _ _ _ _ _ (Act.put _ (some 9) _) _; dsimp only [Act.put])
        refine wpAnyH_done (by kernel_rfl) ?_ _
        refine NoPanic.normal ?_
        cases xb
        · go_wp2_with (
            (with_reducible refine store_state (x := 4) (y := 30) (g := w.heap.size + 1) (cs := stC none none none none 0 0 0 0 0 0 0 0 0 false 0 0 0 0 0 0) ?_ ?_ HZ ?_ ?_ ?_ ?_)
            · rfl
            · rfl
            · exact HI.out
            · rfl
            · simp [Value.oneCell'])
          rw [show ans = (zeroS, false) from by first | exact HNO.out rfl | exact HNO.out trivial]
          exact bodyPost_ret (v := .tuple #[.agg (stC none none none none 0 0 0 0 0 0 0 0 0 false 0 0 0 0 0 0), .bool false]) (results_two_row Tryz.results39 _ _ _ _ _ _ _ _ rfl rfl (setRow_heap _ _ _ _ _ _ HZ) Tryz.underlying38 rfl HI.out) rfl ⟨_, rfl, OwnSt.zero _ _, belowRow_ K (by omega) _⟩
        · go_wp2_with (first
            | ((with_reducible refine store_state (x := 6) (y := 31) (g := g) (cs := stC D0 D1 D2 D3 x.pods.length m0 x.mnts.length m1 x.devs.length m2 x.lks.length m3 x.ph x.co x.ck x.bo x.ba x.lb x.gd x.pr) ?_ ?_ HB ?_ ?_ ?_ ?_)
               · rfl
               · rfl
               · exact HI.out
               · rfl
               · simp [Value.oneCell'])
            | ((with_reducible refine load_state (x := 8) (g := R8) (cs := stC D0 D1 D2 D3 x.pods.length m0 x.mnts.length m1 x.devs.length m2 x.lks.length m3 x.ph x.co x.ck x.bo x.ba x.lb x.gd x.pr) ?_ H8 ?_ ?_)
               · rfl
               · exact HI.out))
          obtain ⟨hy1, hy2⟩ : runLs d s0 (ls.take (k + 1)) = some x ∧ StOk d x := by first | exact HYES.out rfl | exact HYES.out trivial
          have kk := keepsRow_ v3 g (stC D0 D1 D2 D3 x.pods.length m0 x.mnts.length m1 x.devs.length m2 x.lks.length m3 x.ph x.co x.ck x.bo x.ba x.lb x.gd x.pr)
          exact ⟨⟨k + 1, x, D0, D1, D2, D3, m0, m1, m2, m3, by omega, by go_num, hy1, hy2, belowRow_ K (by omega) _, XP.keeps kk (by rintro b rfl; omega) (by show ¬ w.heap.size = g; omega), (setRow_other _ _ _ _ (by omega)).trans HZ, setRow_heap _ _ _ _ _ _ HB, OX.keepsT kk HB (by decide)⟩, by simp [intOf]; omega⟩
      refine AllReadyH.cons rfl (fun K' hK => ?_) AllReadyH.nil
      go_simp
      have H8 := heap_alloc_new v0 (.cells (stC none none none none 0 0 0 0 0 0 0 0 0 false 0 0 0 0 0 0) 38)
      have hb := (Below.refl v0.heap.size v0).alloc (Nat.le_refl _) (.cells (stC none none none none 0 0 0 0 0 0 0 0 0 false 0 0 0 0 0 0) 38)
      have h8g : g < v0.heap.size := (Array.getElem?_eq_some_iff.1 HB).1
      replace q0 := (hb.cell (p := ⟨bl, off + k, none⟩) (Nat.lt_of_lt_of_le hql K.size)).trans q0
      try replace OX := OX.below hb
      replace K := K.trans (hb.mono K.size)
      replace XP := XP.step hb
      replace HZ := (hb.block _ (Array.getElem?_eq_some_iff.1 HZ).1).trans HZ
      replace HB := (hb.block _ (Array.getElem?_eq_some_iff.1 HB).1).trans HB
      replace OT := OT.below hb
      clear hb
      obtain ⟨v1, hwv⟩ : ∃ W, v0.alloc (.cells (stC none none none none 0 0 0 0 0 0 0 0 0 false 0 0 0 0 0 0) 38) = W := ⟨_, rfl⟩
      rw [hwv] at H8 q0 K XP HZ HB OT ⊢
      try rw [hwv] at OX
      clear hwv
      obtain ⟨R8, hR8⟩ : ∃ R, v0.heap.size = R := ⟨_, rfl⟩
      rw [hR8] at H8 h8g ⊢
      clear hR8
      refine hK.out _ _ ⟨XP.C, fun o => cell_of_row _ _ o _ _ _ HB, q0⟩ (fun _ => ?_)
      clear hK K'
      try (change wpAnyH _ _ _ _ _ _ _ (Act.put _ (some 8) _) _; dsimp only [Act.put])
      refine wpAnyH_ready (rs := [6]) (by kernel_rfl) (by simp) ?_
      refine AllReadyH.cons rfl (fun K' hK => ?_) AllReadyH.nil
      go_simp
      go_at_call 44
      have hall := l6All_any _ _ (.slice AL (listAt ls k).length cl) d t (listAt ls k) v1 ((HP.out.below K (Nat.le_refl _)).more K.size) (OT.isR (fits_ok HT.out)) ((HRT.out.below K (Nat.le_refl _)).more K.size) HT.out
      rw [hxb] at hall
      refine hall.mono ?_
      clear hall
      rintro e v2 ⟨vx, rfl, OX, hb⟩
      replace OX := OX.base K.size
      obtain ⟨y0, y1, y2, y3, rfl, -⟩ := OX.it
      obtain ⟨⟨D0, m0, rfl⟩, ⟨D1, m1, rfl⟩, ⟨D2, m2, rfl⟩, ⟨D3, m3, rfl⟩⟩ := OX.shapes
      replace q0 := (hb.cell (p := ⟨bl, off + k, none⟩) (Nat.lt_of_lt_of_le hql K.size)).trans q0
      try replace H8 := (hb.block _ (Array.getElem?_eq_some_iff.1 H8).1).trans H8
      replace K := K.trans (hb.mono K.size)
      replace XP := XP.step hb
      replace HZ := (hb.block _ (Array.getElem?_eq_some_iff.1 HZ).1).trans HZ
      replace HB := (hb.block _ (Array.getElem?_eq_some_iff.1 HB).1).trans HB
      replace OT := OT.below hb
      clear hb
      go_wp2_with fail
      refine hK.out _ _ ⟨XP.C, fun o => cell_of_row _ _ o _ _ _ HB, q0⟩ (fun _ => ?_)
      clear hK K'
      try (change wpAnyH _ _ _ _ _ _ _ (Act.put _ (some 25) _) _; dsimp only [Act.put])
      refine wpAnyH_take (i := 7) (v := ?_) rfl (by kernel_rfl) (by kernel_rfl) (by kernel_rfl) (fun _ _ _ h => h) (Or.inl ⟨by rfl, ?_⟩) ⟨XP.C, fun o => cell_of_row _ _ o _ _ _ HB, q0⟩ ?_
      rotate_left 1
      · intro w hSw
        obtain ⟨hs1, hs2, hs3⟩ := hSw
        go_simp
        try with_reducible rfl
      change wpAnyH _ _ _ _ _ _ _ (Act.put _ (some 18) _) _
      dsimp only [Act.put]
      refine wpAnyH_take (i := 8) (v := ?_) rfl (by kernel_rfl) (by kernel_rfl) (by kernel_rfl) (fun _ _ _ h => h) (Or.inl ⟨by rfl, ?_⟩) ⟨XP.C, fun o => cell_of_row _ _ o _ _ _ HB, q0⟩ ?_
      rotate_left 1
      · intro w hSw
        obtain ⟨hs1, hs2, hs3⟩ := hSw
        go_simp
        try with_reducible rfl
      change wpAnyH _ _ _ _ _ _ _ (Act.put _ (some 26) _) _
      dsimp only [Act.put]
      refine wpAnyH_take (i := 9) (v := ?_) rfl (by kernel_rfl) (by kernel_rfl) (by kernel_rfl) (fun _ _ _ h => h) (Or.inl ⟨by rfl, ?_⟩) ⟨XP.C, fun o => cell_of_row _ _ o _ _ _ HB, q0⟩ ?_
      rotate_left 1
      · intro w hSw
        obtain ⟨hs1, hs2, hs3⟩ := hSw
        go_simp
        try with_reducible rfl
      change wpAnyH _ _ _ _ _ _ _ (Act.put _ (some 27) _) _
      dsimp only [Act.put]
      refine wpAnyH_ready (rs := [11]) (by kernel_rfl) (by simp) ?_
      refine AllReadyH.cons rfl (fun K' hK => ?_) AllReadyH.nil
      rw [if_pos (by rfl)]
      refine wp_store_row 38 (.tmp 8) (.tmp 26) rfl R8 (stC D0 D1 D2 D3 x.pods.length m0 x.mnts.length m1 x.devs.length m2 x.lks.length m3 x.ph x.co x.ck x.bo x.ba x.lb x.gd x.pr) rfl rfl 38 _ H8 HI.out rfl (by simp [Value.oneCell']) ?_
      have hR0 : w.heap.size < R8 := by omega
      replace q0 := ((keepsRow_ v2 R8 (stC D0 D1 D2 D3 x.pods.length m0 x.mnts.length m1 x.devs.length m2 x.lks.length m3 x.ph x.co x.ck x.bo x.ba x.lb x.gd x.pr)).cell (p := ⟨bl, off + k, none⟩) (Nat.lt_of_lt_of_le hql K.size) (by show ¬ bl = R8; omega)).trans q0
      have kk := keepsRow_ v2 (R8) (stC D0 D1 D2 D3 x.pods.length m0 x.mnts.length m1 x.devs.length m2 x.lks.length m3 x.ph x.co x.ck x.bo x.ba x.lb x.gd x.pr)
      replace K := belowRow_ K (B := R8) (by omega) (stC D0 D1 D2 D3 x.pods.length m0 x.mnts.length m1 x.devs.length m2 x.lks.length m3 x.ph x.co x.ck x.bo x.ba x.lb x.gd x.pr)
      replace XP := XP.keeps kk (by rintro b rfl; omega) (by show ¬ w.heap.size = R8; omega)
      replace HZ := (setRow_other _ (R8) (w.heap.size + 1) (stC D0 D1 D2 D3 x.pods.length m0 x.mnts.length m1 x.devs.length m2 x.lks.length m3 x.ph x.co x.ck x.bo x.ba x.lb x.gd x.pr) (by omega)).trans HZ
      replace HB := (setRow_other _ (R8) (g) (stC D0 D1 D2 D3 x.pods.length m0 x.mnts.length m1 x.devs.length m2 x.lks.length m3 x.ph x.co x.ck x.bo x.ba x.lb x.gd x.pr) (by omega)).trans HB
      replace OT := OT.keepsT kk H8 (by decide)
      replace OX := OX.keepsT kk H8 (by decide)
      replace H8 := setRow_heap _ _ _ (stC D0 D1 D2 D3 x.pods.length m0 x.mnts.length m1 x.devs.length m2 x.lks.length m3 x.ph x.co x.ck x.bo x.ba x.lb x.gd x.pr) _ _ H8
      clear kk
      generalize v2.setRow R8 (stC D0 D1 D2 D3 x.pods.length m0 x.mnts.length m1 x.devs.length m2 x.lks.length m3 x.ph x.co x.ck x.bo x.ba x.lb x.gd x.pr) = v3 at q0 H8 OX K XP HZ HB OT ⊢
      refine hK.out _ _ ⟨XP.C, fun o => cell_of_row _ _ o _ _ _ HB, q0⟩ (fun _ => ?_)
      clear hK K'
      try (change wpAnyH _ _ _ _ _ _ _ (Act.put _ none _) _; dsimp only [Act.put])
      refine wpAnyH_ready (rs := [12]) (by kernel_rfl) (by simp) ?_
      refine AllReadyH.cons rfl (fun K' hK => ?_) AllReadyH.nil
      go_simp
      refine hK.out _ _ ⟨XP.C, fun o => cell_of_row _ _ o _ _ _ HB, q0⟩ (fun _ => ?_)
      clear hK K'
      try (change wpAnyH _ _ _ _ _ _ _ (Act.put _ (some 9) _) _; dsimp only [Act.put])
      refine wpAnyH_done (by kernel_rfl) ?_ _
      refine NoPanic.normal ?_
      cases xb
      · go_wp2_with (
          (with_reducible refine store_state (x := 4) (y := 30) (g := w.heap.size + 1) (cs := stC none none none none 0 0 0 0 0 0 0 0 0 false 0 0 0 0 0 0) ?_ ?_ HZ ?_ ?_ ?_ ?_)
          · rfl
          · rfl
          · exact HI.out
          · rfl
          · simp [Value.oneCell'])
        rw [show ans = (zeroS, false) from by first | exact HNO.out rfl | exact HNO.out trivial]
        exact bodyPost_ret (v := .tuple #[.agg (stC none none none none 0 0 0 0 0 0 0 0 0 false 0 0 0 0 0 0), .bool false]) (results_two_row Tryz.results39 _ _ _ _ _ _ _ _ rfl rfl (setRow_heap _ _ _ _ _ _ HZ) Tryz.underlying38 rfl HI.out) rfl ⟨_, rfl, OwnSt.zero _ _, belowRow_ K (by omega) _⟩
      · go_wp2_with (first
          | ((with_reducible refine store_state (x := 6) (y := 31) (g := g) (cs := stC D0 D1 D2 D3 x.pods.length m0 x.mnts.length m1 x.devs.length m2 x.lks.length m3 x.ph x.co x.ck x.bo x.ba x.lb x.gd x.pr) ?_ ?_ HB ?_ ?_ ?_ ?_)
             · rfl
             · rfl
             · exact HI.out
             · rfl
             · simp [Value.oneCell'])
          | ((with_reducible refine load_state (x := 8) (g := R8) (cs := stC D0 D1 D2 D3 x.pods.length m0 x.mnts.length m1 x.devs.length m2 x.lks.length m3 x.ph x.co x.ck x.bo x.ba x.lb x.gd x.pr) ?_ H8 ?_ ?_)
             · rfl
             · exact HI.out))
        obtain ⟨hy1, hy2⟩ : runLs d s0 (ls.take (k + 1)) = some x ∧ StOk d x := by first | exact HYES.out rfl | exact HYES.out trivial
        have kk := keepsRow_ v3 g (stC D0 D1 D2 D3 x.pods.length m0 x.mnts.length m1 x.devs.length m2 x.lks.length m3 x.ph x.co x.ck x.bo x.ba x.lb x.gd x.pr)
        exact ⟨⟨k + 1, x, D0, D1, D2, D3, m0, m1, m2, m3, by omega, by go_num, hy1, hy2, belowRow_ K (by omega) _, XP.keeps kk (by rintro b rfl; omega) (by show ¬ w.heap.size = g; omega), (setRow_other _ _ _ _ (by omega)).trans HZ, setRow_heap _ _ _ _ _ _ HB, OX.keepsT kk HB (by decide)⟩, by simp [intOf]; omega⟩
    · have hkl : ls.length = k := by omega
      have hsome : ans = (t, true) := by
        rw [← HANS.out]
        unfold replayD
        have := HRUN.out
        rw [← hkl, List.take_length] at this
        rw [HS0.out, this]
      go_wp2_with (first
        | ((with_reducible refine store_state (x := 4) (y := 32) (g := w.heap.size + 1) (cs := stC C0 C1 C2 C3 t.pods.length f0 t.mnts.length f1 t.devs.length f2 t.lks.length f3 t.ph t.co t.ck t.bo t.ba t.lb t.gd t.pr) ?_ ?_ HZ ?_ ?_ ?_ ?_)
           · rfl
           · rfl
           · exact HI.out
           · rfl
           · simp [Value.oneCell'])
        | ((with_reducible refine load_state (x := 6) (g := g) (cs := stC C0 C1 C2 C3 t.pods.length f0 t.mnts.length f1 t.devs.length f2 t.lks.length f3 t.ph t.co t.ck t.bo t.ba t.lb t.gd t.pr) ?_ HB ?_ ?_)
           · rfl
           · exact HI.out))
      rw [hsome]
      have kk := keepsRow_ wr (w.heap.size + 1) (stC C0 C1 C2 C3 t.pods.length f0 t.mnts.length f1 t.devs.length f2 t.lks.length f3 t.ph t.co t.ck t.bo t.ba t.lb t.gd t.pr)
      exact bodyPost_ret (v := .tuple #[.agg (stC C0 C1 C2 C3 t.pods.length f0 t.mnts.length f1 t.devs.length f2 t.lks.length f3 t.ph t.co t.ck t.bo t.ba t.lb t.gd t.pr), .bool true]) (results_two_row Tryz.results39 _ _ _ _ _ _ _ _ rfl rfl (setRow_heap _ _ _ _ _ _ HZ) Tryz.underlying38 rfl HI.out) rfl ⟨_, rfl, OT.keepsT kk HZ (by decide), belowRow_ K (by omega) _⟩
end Go.Proofs.YtfibgpikjfopgaaGreat
/- Nb -/
set_option linter.unusedVariables false
namespace Go.Proofs.YtfibgpikjfopgaaGreat
open Go.RowKit

theorem AgD.replay {d : PlanD} {s : StD} {st : List Nat} (h : AgD d s st) : ∃ ls, framesN st = (ls, st.length) ∧ replayD d ls = (s, true) := by
  obtain ⟨ls, hf, hr⟩ := h.it
  exact ⟨ls, hf, by unfold replayD; rw [hr]⟩

set_option maxRecDepth 100000 in
set_option maxHeartbeats 8000000 in
theorem agentOk_any (v : Value) (d : PlanD) (s : StD) (st : List Nat) (w : World) (h : IsAg w w.heap.size v d s st) (ha : AgD d s st) :
    Calls Tryz.prog 20 #[v] w fun e w' => e = .returned (.bool true) ∧ Below w.heap.size w w' := by
  obtain ⟨p0, p1, p2, p3, s0, s1, s2, s3, b, rfl, hp, hs, hb, hre⟩ := h.it
  obtain ⟨Ab, cb, rfl, hcap⟩ : ∃ A c, b = .slice A st.length c ∧ st.length ≤ c := by
    obtain ⟨⟨A, c, e, hc, -⟩, -, -⟩ := hb
    exact ⟨A, c, e, hc⟩
  have HP := Lib.hid hp
  have HS := Lib.hid hs
  have HB := Lib.hid hb
  have HA := Lib.hid ha
  have HI : Hid ((Tryz.prog.info? 38).map (·.size) = some 12) := Lib.hid (by kernel_rfl)
  obtain ⟨ls, hf, hrep⟩ := ha.replay
  have HF := Lib.hid hf
  have HREP := Lib.hid hrep
  have hlen := ha.len
  have X0 := Own.box w (agC p0 p1 p2 p3 d.l d.p d.t s.ph s.co s.ck s.bo s.ba s.lb s0 s1 s2 s3 s.gd s.pr (.slice Ab st.length cb)) 40
  clear h hp hs hb hre ha hf hrep hcap
  have i0 : (st.length : Int) ≤ 1200 := by omega
  go_enter Tryz.func20, Tryz.ntmps20
  go_wp2_with fail
  generalize w.alloc (.cells (agC p0 p1 p2 p3 d.l d.p d.t s.ph s.co s.ck s.bo s.ba s.lb s0 s1 s2 s3 s.gd s.pr (.slice Ab st.length cb)) 40) = w0 at X0 ⊢
  refine (spec_planOk_any _ d w0 ((HP.out.below X0.K (Nat.le_refl _)).more X0.K.size).is).mono ?_
  rintro e w1 ⟨rfl, hb⟩
  rw [HA.out.plan]
  have X1 := X0.step hb
  have hC := X1.C
  clear X0 hb
  go_wp2_with fail
  refine (specReadFrames_any _ st w1 ((HB.out.below X1.K (Nat.le_refl _)).more X1.K.size) (by omega)).mono ?_
  rintro e w2 ⟨vl, rfl, OL, hb⟩
  rw [HF.out] at OL ⊢
  dsimp only at OL ⊢
  have X2 := X1.step hb
  clear X1 hb hC
  have hC := X2.C
  have SL := Lib.hid OL.st
  obtain ⟨⟨LA, lc, rfl, -⟩, -⟩ := OL.st
  clear OL
  go_wp2_with fail
  have hrp := l15Replay_any _ _ d ls w2 ((HP.out.below X2.K (Nat.le_refl _)).more X2.K.size).is SL.out HA.out.plan
  rw [HREP.out] at hrp
  refine hrp.mono ?_
  clear hrp
  rintro e w3 ⟨vs, rfl, OT, hb⟩
  have X3 := X2.step hb
  clear X2 hb hC SL
  obtain ⟨y0, y1, y2, y3, rfl, -⟩ := OT.it
  obtain ⟨⟨B0, e0, rfl⟩, ⟨B1, e1, rfl⟩, ⟨B2, e2, rfl⟩, ⟨B3, e3, rfl⟩⟩ := OT.shapes
  have HB8 := heap_alloc_new w3 (.cells (stC none none none none 0 0 0 0 0 0 0 0 0 false 0 0 0 0 0 0) 38)
  go_upto_region 7 with (
    (with_reducible refine store_state (x := 5) (y := 33) (g := w3.heap.size) (cs := stC B0 B1 B2 B3 s.pods.length e0 s.mnts.length e1 s.devs.length e2 s.lks.length e3 s.ph s.co s.ck s.bo s.ba s.lb s.gd s.pr) ?_ ?_ HB8 ?_ ?_ ?_ ?_)
    · rfl
    · rfl
    · exact HI.out
    · rfl
    · simp [Value.oneCell'])
  have hA : Below w3.heap.size w3 (w3.alloc (.cells (stC none none none none 0 0 0 0 0 0 0 0 0 false 0 0 0 0 0 0) 38)) := (Below.refl _ _).alloc (Nat.le_refl _) _
  have hA2 := below_setRow hA (Nat.le_refl _) (stC B0 B1 B2 B3 s.pods.length e0 s.mnts.length e1 s.devs.length e2 s.lks.length e3 s.ph s.co s.ck s.bo s.ba s.lb s.gd s.pr)
  have X4 := X3.step hA2
  have OT4 := Lib.hid (OT.below hA2)
  have HB9 := setRow_heap _ _ _ (stC B0 B1 B2 B3 s.pods.length e0 s.mnts.length e1 s.devs.length e2 s.lks.length e3 s.ph s.co s.ck s.bo s.ba s.lb s.gd s.pr) _ _ HB8
  clear X3 hA hA2 OT HB8
  generalize (w3.alloc (.cells (stC none none none none 0 0 0 0 0 0 0 0 0 false 0 0 0 0 0 0) 38)).setRow w3.heap.size (stC B0 B1 B2 B3 s.pods.length e0 s.mnts.length e1 s.devs.length e2 s.lks.length e3 s.ph s.co s.ck s.bo s.ba s.lb s.gd s.pr) = w4 at X4 OT4 HB9 ⊢
  generalize w3.heap.size = g at HB9 ⊢
  have hC := X4.C
  have hD : ∀ o, w4.cell? ⟨g, o, none⟩ = (stC B0 B1 B2 B3 s.pods.length e0 s.mnts.length e1 s.devs.length e2 s.lks.length e3 s.ph s.co s.ck s.bo s.ba s.lb s.gd s.pr)[o]? := fun o => cell_of_row _ _ o _ _ _ HB9
  clear HB9
  go_wp2_with fail
  refine (sameState_any _ _ s w4 OT4.out.st ((HS.out.below X4.K (Nat.le_refl _)).more X4.K.size).is).mono ?_
  rintro e w5 ⟨rfl, hb⟩
  have X5 := X4.step hb
  clear X4 hb hC hD
  go_wp2_with fail
  go_ret
  exact ⟨rfl, X5.K⟩

set_option maxRecDepth 100000 in
set_option maxHeartbeats 8000000 in
theorem obeyed_any (v : Value) (d : PlanD) (s : StD) (st : List Nat) (k a b0 : Int) (w : World) (h : IsAg w w.heap.size v d s st) (ha : AgD d s st) :
    Calls Tryz.prog 8 #[v, .agg (ordC k a b0)] w (ObeyedA w d (obeyD d s st k a b0)) := by
  have HAG := Lib.hid h
  have HA := Lib.hid ha
  obtain ⟨p0, p1, p2, p3, s0, s1, s2, s3, b, rfl, -, -, -, -⟩ := h.it
  have HI : Hid ((Tryz.prog.info? 40).map (·.size) = some 20) := Lib.hid (by kernel_rfl)
  obtain ⟨ans, hans⟩ : ∃ ans, obeyD d s st k a b0 = ans := ⟨_, rfl⟩
  rw [hans]
  have HANS := Lib.hid hans
  clear h ha hans
  have T0 := TP.start w (agC p0 p1 p2 p3 d.l d.p d.t s.ph s.co s.ck s.bo s.ba s.lb s0 s1 s2 s3 s.gd s.pr b) (ordC k a b0) (agC (.slice none 0 0) (.slice none 0 0) (.slice none 0 0) (.slice none 0 0) 0 0 0 0 false 0 0 0 0 (.slice none 0 0) (.slice none 0 0) (.slice none 0 0) (.slice none 0 0) 0 0 (.slice none 0 0)) 40 46 40
  have Ha : (((w.alloc (.cells (agC p0 p1 p2 p3 d.l d.p d.t s.ph s.co s.ck s.bo s.ba s.lb s0 s1 s2 s3 s.gd s.pr b) 40)).alloc (.cells (ordC k a b0) 46)).alloc (.cells (agC (.slice none 0 0) (.slice none 0 0) (.slice none 0 0) (.slice none 0 0) 0 0 0 0 false 0 0 0 0 (.slice none 0 0) (.slice none 0 0) (.slice none 0 0) (.slice none 0 0) 0 0 (.slice none 0 0)) 40)).heap[w.heap.size]? = some (.cells (agC p0 p1 p2 p3 d.l d.p d.t s.ph s.co s.ck s.bo s.ba s.lb s0 s1 s2 s3 s.gd s.pr b) 40) := by
    have hb := ((Below.refl (w.alloc (.cells (agC p0 p1 p2 p3 d.l d.p d.t s.ph s.co s.ck s.bo s.ba s.lb s0 s1 s2 s3 s.gd s.pr b) 40)).heap.size (w.alloc (.cells (agC p0 p1 p2 p3 d.l d.p d.t s.ph s.co s.ck s.bo s.ba s.lb s0 s1 s2 s3 s.gd s.pr b) 40))).alloc (Nat.le_refl _) (.cells (ordC k a b0) 46)).alloc (by simp) (.cells (agC (.slice none 0 0) (.slice none 0 0) (.slice none 0 0) (.slice none 0 0) 0 0 0 0 false 0 0 0 0 (.slice none 0 0) (.slice none 0 0) (.slice none 0 0) (.slice none 0 0) 0 0 (.slice none 0 0)) 40)
    exact (hb.block w.heap.size (by simp)).trans (heap_alloc_new w _)
  have H4 : (((w.alloc (.cells (agC p0 p1 p2 p3 d.l d.p d.t s.ph s.co s.ck s.bo s.ba s.lb s0 s1 s2 s3 s.gd s.pr b) 40)).alloc (.cells (ordC k a b0) 46)).alloc (.cells (agC (.slice none 0 0) (.slice none 0 0) (.slice none 0 0) (.slice none 0 0) 0 0 0 0 false 0 0 0 0 (.slice none 0 0) (.slice none 0 0) (.slice none 0 0) (.slice none 0 0) 0 0 (.slice none 0 0)) 40)).heap[w.heap.size + 1 + 1]? = some (.cells (agC (.slice none 0 0) (.slice none 0 0) (.slice none 0 0) (.slice none 0 0) 0 0 0 0 false 0 0 0 0 (.slice none 0 0) (.slice none 0 0) (.slice none 0 0) (.slice none 0 0) 0 0 (.slice none 0 0)) 40) := by
    have := heap_alloc_new ((w.alloc (.cells (agC p0 p1 p2 p3 d.l d.p d.t s.ph s.co s.ck s.bo s.ba s.lb s0 s1 s2 s3 s.gd s.pr b) 40)).alloc (.cells (ordC k a b0) 46)) (.cells (agC (.slice none 0 0) (.slice none 0 0) (.slice none 0 0) (.slice none 0 0) 0 0 0 0 false 0 0 0 0 (.slice none 0 0) (.slice none 0 0) (.slice none 0 0) (.slice none 0 0) 0 0 (.slice none 0 0)) 40)
    simpa only [heap_size_alloc_] using this
  go_enter Tryz.func8, Tryz.ntmps8
  go_upto_region 1 with fail
  generalize ((w.alloc (.cells (agC p0 p1 p2 p3 d.l d.p d.t s.ph s.co s.ck s.bo s.ba s.lb s0 s1 s2 s3 s.gd s.pr b) 40)).alloc (.cells (ordC k a b0) 46)).alloc (.cells (agC (.slice none 0 0) (.slice none 0 0) (.slice none 0 0) (.slice none 0 0) 0 0 0 0 false 0 0 0 0 (.slice none 0 0) (.slice none 0 0) (.slice none 0 0) (.slice none 0 0) 0 0 (.slice none 0 0)) 40) = w0 at T0 Ha H4 ⊢
  go_upto_region 3 with (first
    | (go_at_call 20
       refine (agentOk_any _ d s st w0 ((HAG.out.below T0.A.K (Nat.le_refl _)).more T0.A.K.size) HA.out).mono ?_
       rintro e w1 ⟨rfl, hb⟩)
    | ((with_reducible refine load_agent (x := 2) (g := w.heap.size) (cs := agC p0 p1 p2 p3 d.l d.p d.t s.ph s.co s.ck s.bo s.ba s.lb s0 s1 s2 s3 s.gd s.pr b) ?_ Ha ?_ ?_)
       · rfl
       · exact HI.out))
  have T1 := T0.step hb
  replace Ha := (hb.block _ T0.A.z).trans Ha
  replace H4 := (hb.block _ T0.O.z).trans H4
  clear hb T0
  have hD := T1.Z.C
  go_wp2_with (first
    | (have hq := H42
       clear hq
       (with_reducible refine store_agent (x := 4) (y := 13) (g := w.heap.size + 1 + 1) (cs := cs) ?_ ?_ H42 ?_ ?_ ?_ ?_)
       · rfl
       · rfl
       · rw [hsz]; exact HI.out
       · rw [hsz]; rfl
       · exact hone)
    | (go_at_call 21
       refine (l15Obey_any _ d s st k a b0 _ ((HAG.out.below T1.A.K (Nat.le_refl _)).more T1.A.K.size) HA.out.ok HA.out.len).mono ?_
       rw [HANS.out]
       rintro e w2 ⟨v2, rfl, OA, hb2⟩
       replace OA := OA.base T1.A.K.size
       have T2 := T1.step hb2
       have H42 := (hb2.block _ T1.O.z).trans H4
       obtain ⟨cs, rfl, hsz, hone⟩ := OA.flat)
    | ((with_reducible refine load_agent (x := 2) (g := w.heap.size) (cs := agC p0 p1 p2 p3 d.l d.p d.t s.ph s.co s.ck s.bo s.ba s.lb s0 s1 s2 s3 s.gd s.pr b) ?_ Ha ?_ ?_)
       · rfl
       · exact HI.out))
  have KS : Keeps (· = w.heap.size + 1 + 1) w2 (w2.setRow (w.heap.size + 1 + 1) cs) := keeps_setRow ..
  exact bodyPost_ret (v := .tuple #[.agg cs, .int .i64 ans.2]) (results_two_row Tryz.results8 _ _ _ _ _ _ _ _ rfl rfl (setRow_heap w2 _ _ _ _ _ H42) Tryz.underlying40 rfl (by rw [hsz]; exact HI.out)) rfl ⟨_, rfl, OA.keepsT KS H42 (by decide), below_setRow T2.O.K (by omega) _⟩
end Go.Proofs.YtfibgpikjfopgaaGreat
/- Nc -/
set_option linter.unusedVariables false
namespace Go.Proofs.YtfibgpikjfopgaaGreat
open Go.RowKit

def GivesPSN (w : World) (e : Ending) (w' : World) : Prop :=
  ∃ v0 v1 v2 v3 d vs s k, e = .returned (.tuple #[.agg #[v0, v1, v2, v3, .int .i64 d.l, .int .i64 d.p, .int .i64 d.t], vs, .int .i64 k]) ∧ Lists w' w.heap.size v0 v1 v2 v3 d ∧ OwnSt w' w.heap.size vs s ∧ PlSmall d ∧ StSmall s ∧ Below w.heap.size w w'
theorem results_cells_num {P : Program} {fn : Func} {p q r : Tmp} {ty ty' : TypeId} (h : fn.results = #[.cell p ty, .cell q ty', .tmp r]) (tmps : Array Value) (w : World) (g g' : Nat) (t t' : TypeId) (cs cs' : Array Value) (fr fr' : Nat × Nat) (d d' : TypeDesc) (u : Value)
    (hp : tmps.getD p undef = .pointer (some ⟨g, 0, none⟩)) (hq : tmps.getD q undef = .pointer (some ⟨g', 0, none⟩)) (hr : tmps.getD r undef = u) (hg : w.heap[g]? = some (.cells cs t fr)) (hg' : w.heap[g']? = some (.cells cs' t' fr'))
    (hu : P.underlying ty = some d) (hd : (match d with | .struct _ | .array _ _ => true | _ => false) = true) (hi : (P.info? ty).map (·.size) = some cs.size)
    (hu' : P.underlying ty' = some d') (hd' : (match d' with | .struct _ | .array _ _ => true | _ => false) = true) (hi' : (P.info? ty').map (·.size) = some cs'.size) :
    (results fn tmps).run P w = .ok (.tuple #[.agg cs, .agg cs', u]) w := by
  have hp' : tmps[p]?.getD undef = .pointer (some ⟨g, 0, none⟩) := by simpa using hp
  have hq' : tmps[q]?.getD undef = .pointer (some ⟨g', 0, none⟩) := by simpa using hq
  have hr' : tmps[r]?.getD undef = u := by simpa using hr
  simp [results, h, hp', hq', hr', asAddr, run_loadVar_row w g t ty cs fr d hg hu hd hi, run_loadVar_row w g' t' ty' cs' fr' d' hg' hu' hd' hi']
/-- The numbers of a state beside its lists may be others. -/
theorem OwnSt.nums {w : World} {B : Nat} {v0 v1 v2 v3 : Value} {ph ck bo ba lb gd pr : Int} {co : Bool} {ps : List (Int × Int)} {ms : List (Bool × Int)} {ds : List Bool} {ls : List Int} (h : OwnSt w B (.agg #[.int .i64 ph, .bool co, .int .i64 ck, .int .i64 bo, .int .i64 ba, .int .i64 lb, v0, v1, v2, v3, .int .i64 gd, .int .i64 pr]) ⟨ph, co, ck, bo, ba, lb, ps, ms, ds, ls, gd, pr⟩)
    (ph' : Int) (co' : Bool) (ck' bo' ba' lb' gd' pr' : Int) : OwnSt w B (.agg #[.int .i64 ph', .bool co', .int .i64 ck', .int .i64 bo', .int .i64 ba', .int .i64 lb', v0, v1, v2, v3, .int .i64 gd', .int .i64 pr']) ⟨ph', co', ck', bo', ba', lb', ps, ms, ds, ls, gd', pr'⟩ := by
  obtain ⟨u0, u1, u2, u3, hy, z0, z1, z2, z3⟩ := h.it
  injection hy with hy
  have e0 : v0 = u0 := Option.some.inj (show some v0 = some u0 from congrArg (fun a : Array Value => a[6]?) hy)
  have e1 : v1 = u1 := Option.some.inj (show some v1 = some u1 from congrArg (fun a : Array Value => a[7]?) hy)
  have e2 : v2 = u2 := Option.some.inj (show some v2 = some u2 from congrArg (fun a : Array Value => a[8]?) hy)
  have e3 : v3 = u3 := Option.some.inj (show some v3 = some u3 from congrArg (fun a : Array Value => a[9]?) hy)
  subst e0 e1 e2 e3
  exact ⟨_, _, _, _, rfl, z0, z1, z2, z3⟩

set_option maxRecDepth 100000 in
set_option maxHeartbeats 8000000 in
theorem drawHealthyIn_any (A : Option Addr) (n c : Nat) (w : World) (hB : Bytes w w.heap.size A n) (hn : n ≤ 4096) : Calls Tryz.prog 15 #[.slice A n c] w (GivesPSN w) := by
  have HIP : Hid ((Tryz.prog.info? 32).map (·.size) = some 7) := Lib.hid (by kernel_rfl)
  have HIS : Hid ((Tryz.prog.info? 38).map (·.size) = some 12) := Lib.hid (by kernel_rfl)
  have b2 : ((w.alloc (.cells (planC none none none none 0 0 0 0 0 0 0 0 0 0 0) 32)).alloc (.cells (stC none none none none 0 0 0 0 0 0 0 0 0 false 0 0 0 0 0 0) 38)).heap[w.heap.size]? = some (.cells (planC none none none none 0 0 0 0 0 0 0 0 0 0 0) 32) := by
    have hb := (Below.refl (w.alloc (.cells (planC none none none none 0 0 0 0 0 0 0 0 0 0 0) 32)).heap.size (w.alloc (.cells (planC none none none none 0 0 0 0 0 0 0 0 0 0 0) 32))).alloc (Nat.le_refl _) (.cells (stC none none none none 0 0 0 0 0 0 0 0 0 false 0 0 0 0 0 0) 38)
    exact (hb.block w.heap.size (by simp)).trans (heap_alloc_new w _)
  have b3 := heap_alloc2_new w (.cells (planC none none none none 0 0 0 0 0 0 0 0 0 0 0) 32) (.cells (stC none none none none 0 0 0 0 0 0 0 0 0 false 0 0 0 0 0 0) 38)
  have KB : Below w.heap.size w ((w.alloc (.cells (planC none none none none 0 0 0 0 0 0 0 0 0 0 0) 32)).alloc (.cells (stC none none none none 0 0 0 0 0 0 0 0 0 false 0 0 0 0 0 0) 38)) := ((Below.refl _ _).alloc (Nat.le_refl _) _).alloc (by simp) _
  have HB := Lib.hid ((hB.below KB (Nat.le_refl _)).more KB.size)
  clear hB
  go_enter Tryz.func15, Tryz.ntmps15
  go_wp2_with fail
  generalize ((w.alloc (.cells (planC none none none none 0 0 0 0 0 0 0 0 0 0 0) 32)).alloc (.cells (stC none none none none 0 0 0 0 0 0 0 0 0 false 0 0 0 0 0 0) 38)) = w0 at b2 b3 KB HB ⊢
  refine (l1New_any A n c w0 HB.out hn).mono ?_
  rintro e w1 ⟨g, rfl, hg, hc1, K1⟩
  have hz3 := (Array.getElem?_eq_some_iff.1 b3).1
  replace b2 := (K1.block _ (Array.getElem?_eq_some_iff.1 b2).1).trans b2
  replace b3 := (K1.block _ (Array.getElem?_eq_some_iff.1 b3).1).trans b3
  replace KB := KB.trans (K1.mono KB.size)
  clear K1 HB
  go_wp2_with fail
  refine (l5DrawAny_any g w1 hc1).mono ?_
  rintro e w2 ⟨v0, v1, v2, v3, d, vs, s, rfl, Lp, Os, hd, hs, CU, hk⟩
  replace b2 := (hk.block _ (Array.getElem?_eq_some_iff.1 b2).1 (by show ¬ w.heap.size = g; omega)).trans b2
  replace b3 := (hk.block _ (Array.getElem?_eq_some_iff.1 b3).1 (by show ¬ w.heap.size + 1 = g; omega)).trans b3
  have hl2 : g < w2.heap.size := CU.lt
  have hz4 := (Array.getElem?_eq_some_iff.1 b3).1
  replace Lp := Lp.base KB.size
  replace Os := Os.base KB.size
  replace KB := KB.trans (hk.below (B := w.heap.size) KB.size (by rintro b hb rfl; omega))
  clear hk hc1
  obtain ⟨y0, y1, y2, y3, rfl, -⟩ := Os.it
  obtain ⟨⟨Y0, f0, rfl⟩, ⟨Y1, f1, rfl⟩, ⟨Y2, f2, rfl⟩, ⟨Y3, f3, rfl⟩⟩ := Os.shapes
  obtain ⟨Q0, e0, rfl, -, -⟩ := Lp.o0.formR
  obtain ⟨Q1, e1, rfl, -, -⟩ := Lp.o1.formR
  obtain ⟨Q2, e2, rfl, -, -⟩ := Lp.o2.formR
  obtain ⟨Q3, e3, rfl, -, -⟩ := Lp.o3.formR
  have hA : Below w2.heap.size w2 ((w2.alloc (.cells (planC none none none none 0 0 0 0 0 0 0 0 0 0 0) 32)).alloc (.cells (stC none none none none 0 0 0 0 0 0 0 0 0 false 0 0 0 0 0 0) 38)) := ((Below.refl _ _).alloc (Nat.le_refl _) _).alloc (by simp) _
  have H6 : ((w2.alloc (.cells (planC none none none none 0 0 0 0 0 0 0 0 0 0 0) 32)).alloc (.cells (stC none none none none 0 0 0 0 0 0 0 0 0 false 0 0 0 0 0 0) 38)).heap[w2.heap.size]? = some (.cells (planC none none none none 0 0 0 0 0 0 0 0 0 0 0) 32) := by
    have hb := (Below.refl (w2.alloc (.cells (planC none none none none 0 0 0 0 0 0 0 0 0 0 0) 32)).heap.size (w2.alloc (.cells (planC none none none none 0 0 0 0 0 0 0 0 0 0 0) 32))).alloc (Nat.le_refl _) (.cells (stC none none none none 0 0 0 0 0 0 0 0 0 false 0 0 0 0 0 0) 38)
    exact (hb.block w2.heap.size (by simp)).trans (heap_alloc_new w2 _)
  have H7 := heap_alloc2_new w2 (.cells (planC none none none none 0 0 0 0 0 0 0 0 0 0 0) 32) (.cells (stC none none none none 0 0 0 0 0 0 0 0 0 false 0 0 0 0 0 0) 38)
  have H7' := (setRow_other ((w2.alloc (.cells (planC none none none none 0 0 0 0 0 0 0 0 0 0 0) 32)).alloc (.cells (stC none none none none 0 0 0 0 0 0 0 0 0 false 0 0 0 0 0 0) 38)) w2.heap.size _ (planC Q0 Q1 Q2 Q3 d.n0 e0 d.n1 e1 d.n2 e2 d.n3 e3 d.l d.p d.t) (Nat.succ_ne_self _)).trans H7
  go_upto_region 3 with (first
    | ((with_reducible refine store_plan (x := 6) (y := 13) (g := w2.heap.size) (cs := planC Q0 Q1 Q2 Q3 d.n0 e0 d.n1 e1 d.n2 e2 d.n3 e3 d.l d.p d.t) ?_ ?_ H6 ?_ ?_ ?_ ?_)
       · rfl
       · rfl
       · exact HIP.out
       · rfl
       · simp [Value.oneCell'])
    | ((with_reducible refine store_state (x := 7) (y := 14) (g := w2.heap.size + 1) (cs := stC Y0 Y1 Y2 Y3 s.pods.length f0 s.mnts.length f1 s.devs.length f2 s.lks.length f3 s.ph s.co s.ck s.bo s.ba s.lb s.gd s.pr) ?_ ?_ H7' ?_ ?_ ?_ ?_)
       · rfl
       · rfl
       · exact HIS.out
       · rfl
       · simp [Value.oneCell']))
  have h2w := KB.size
  have hw2 : w2.heap.size < w2.heap.size + 1 := Nat.lt_succ_self _
  have hA2 := below_setRow (below_setRow hA (Nat.le_refl _) (planC Q0 Q1 Q2 Q3 d.n0 e0 d.n1 e1 d.n2 e2 d.n3 e3 d.l d.p d.t)) (Nat.le_succ _) (stC Y0 Y1 Y2 Y3 s.pods.length f0 s.mnts.length f1 s.devs.length f2 s.lks.length f3 s.ph s.co s.ck s.bo s.ba s.lb s.gd s.pr)
  have G6 := (setRow_other (((w2.alloc (.cells (planC none none none none 0 0 0 0 0 0 0 0 0 0 0) 32)).alloc (.cells (stC none none none none 0 0 0 0 0 0 0 0 0 false 0 0 0 0 0 0) 38)).setRow w2.heap.size (planC Q0 Q1 Q2 Q3 d.n0 e0 d.n1 e1 d.n2 e2 d.n3 e3 d.l d.p d.t)) (w2.heap.size + 1) w2.heap.size (stC Y0 Y1 Y2 Y3 s.pods.length f0 s.mnts.length f1 s.devs.length f2 s.lks.length f3 s.ph s.co s.ck s.bo s.ba s.lb s.gd s.pr) (by omega)).trans (setRow_heap _ _ _ (planC Q0 Q1 Q2 Q3 d.n0 e0 d.n1 e1 d.n2 e2 d.n3 e3 d.l d.p d.t) _ _ H6)
  have G7 := setRow_heap (((w2.alloc (.cells (planC none none none none 0 0 0 0 0 0 0 0 0 0 0) 32)).alloc (.cells (stC none none none none 0 0 0 0 0 0 0 0 0 false 0 0 0 0 0 0) 38)).setRow w2.heap.size (planC Q0 Q1 Q2 Q3 d.n0 e0 d.n1 e1 d.n2 e2 d.n3 e3 d.l d.p d.t)) (w2.heap.size + 1) _ (stC Y0 Y1 Y2 Y3 s.pods.length f0 s.mnts.length f1 s.devs.length f2 s.lks.length f3 s.ph s.co s.ck s.bo s.ba s.lb s.gd s.pr) _ _ H7'
  clear H6 H7 H7' hA
  replace b2 := (hA2.block _ (Array.getElem?_eq_some_iff.1 b2).1).trans b2
  replace b3 := (hA2.block _ (Array.getElem?_eq_some_iff.1 b3).1).trans b3
  replace Lp := Lp.below hA2
  replace Os := Os.below hA2
  replace KB := KB.trans (hA2.mono KB.size)
  replace CU := CU.below hA2
  have hg2 : g < w2.heap.size := by assumption
  clear hA2 hw2
  generalize (((w2.alloc (.cells (planC none none none none 0 0 0 0 0 0 0 0 0 0 0) 32)).alloc (.cells (stC none none none none 0 0 0 0 0 0 0 0 0 false 0 0 0 0 0 0) 38)).setRow w2.heap.size (planC Q0 Q1 Q2 Q3 d.n0 e0 d.n1 e1 d.n2 e2 d.n3 e3 d.l d.p d.t)).setRow (w2.heap.size + 1) (stC Y0 Y1 Y2 Y3 s.pods.length f0 s.mnts.length f1 s.devs.length f2 s.lks.length f3 s.ph s.co s.ck s.bo s.ba s.lb s.gd s.pr) = w3 at b2 b3 G6 G7 Lp Os KB CU ⊢
  obtain ⟨R7, hR7⟩ : ∃ R, w2.heap.size + 1 = R := ⟨_, rfl⟩
  rw [hR7] at G7 ⊢
  generalize w2.heap.size = R6 at G6 hR7 hz4 hl2 hg2 h2w ⊢
  have H6 := G6
  have H7 := G7
  clear G6 G7
  obtain ⟨ph, co, ck, bo, ba, lb, ps, ms, ds, ls, gd, pr⟩ := s
  dsimp only at Os H7 hs ⊢
  have hs0 : ps.length ≤ 12 := hs.s0
  refine wp_region_noPanic ?_
  refine wp_region_held_drew (S := fun W => (∀ o, W.cell? ⟨R6, o, none⟩ = (planC Q0 Q1 Q2 Q3 d.n0 e0 d.n1 e1 d.n2 e2 d.n3 e3 d.l d.p d.t)[o]?) ∧ (∀ o, W.cell? ⟨R7, o, none⟩ = (stC Y0 Y1 Y2 Y3 ps.length f0 ms.length f1 ds.length f2 ls.length f3 ph co ck bo ba lb gd pr)[o]?)) (by kernel_rfl) (by rw [← heap_drew w3] at H6 H7; exact ⟨fun o => cell_of_row _ _ o _ _ _ H6, fun o => cell_of_row _ _ o _ _ _ H7⟩) (fun _ => ?_)
  rw [← heap_drew w3] at b2 b3 H6 H7
  replace Lp := Lp.below (Below.refl _ _).drew
  replace Os := Os.below (Below.refl _ _).drew
  replace KB := KB.drew
  replace CU := CU.below (Below.refl _ _).drew
  generalize w3.drew = v0 at KB b2 b3 H6 H7 Lp Os CU ⊢
  refine wpAnyH_take (i := 0) (v := ?_) rfl (by kernel_rfl) (by kernel_rfl) (by kernel_rfl) (fun _ _ _ h => h) (Or.inl ⟨by rfl, ?_⟩) ⟨fun o => cell_of_row _ _ o _ _ _ H6, fun o => cell_of_row _ _ o _ _ _ H7⟩ ?_
  rotate_left 1
  · intro w hSw
    obtain ⟨hs6, hs7⟩ := hSw
    go_simp
    try with_reducible rfl
  change wpAnyH _ _ _ _ _ _ _ (Act.put _ (some 15) _) _
  dsimp only [Act.put]
  refine wpAnyH_take (i := 1) (v := ?_) rfl (by kernel_rfl) (by kernel_rfl) (by kernel_rfl) (fun _ _ _ h => h) (Or.inl ⟨by rfl, ?_⟩) ⟨fun o => cell_of_row _ _ o _ _ _ H6, fun o => cell_of_row _ _ o _ _ _ H7⟩ ?_
  rotate_left 1
  · intro w hSw
    obtain ⟨hs6, hs7⟩ := hSw
    go_simp
    try with_reducible rfl
  change wpAnyH _ _ _ _ _ _ _ (Act.put _ (some 16) _) _
  dsimp only [Act.put]
  refine wpAnyH_take (i := 2) (v := ?_) rfl (by kernel_rfl) (by kernel_rfl) (by kernel_rfl) (fun _ _ _ h => h) (Or.inl ⟨by rfl, ?_⟩) ⟨fun o => cell_of_row _ _ o _ _ _ H6, fun o => cell_of_row _ _ o _ _ _ H7⟩ ?_
  rotate_left 1
  · intro w hSw
    obtain ⟨hs6, hs7⟩ := hSw
    go_simp
    try with_reducible rfl
  change wpAnyH _ _ _ _ _ _ _ (Act.put _ (some 17) _) _
  dsimp only [Act.put]
  refine wpAnyH_ready (rs := [3]) (by kernel_rfl) (by simp) ?_
  refine AllReadyH.cons rfl (fun K' hK => ?_) AllReadyH.nil
  go_simp
  go_at_call 34
  refine (l1From_any g (-1) 4 v0 CU (by omega) (by omega) (by omega) (by omega)).mono ?_
  rintro e v1 ⟨k, rfl, -, -, CU9, hk⟩
  obtain ⟨gcs, hgc⟩ := CU.cells
  replace Lp := Lp.keeps hk hgc (by decide)
  replace Os := Os.keepsT hk hgc (by decide)
  replace b2 := (hk.block _ (Array.getElem?_eq_some_iff.1 b2).1 (by show ¬ w.heap.size = g; omega)).trans b2
  replace b3 := (hk.block _ (Array.getElem?_eq_some_iff.1 b3).1 (by show ¬ w.heap.size + 1 = g; omega)).trans b3
  replace H6 := (hk.block _ (Array.getElem?_eq_some_iff.1 H6).1 (by show ¬ R6 = g; omega)).trans H6
  replace H7 := (hk.block _ (Array.getElem?_eq_some_iff.1 H7).1 (by show ¬ R7 = g; omega)).trans H7
  replace KB := KB.trans (hk.below (B := w.heap.size) KB.size (by rintro b hb rfl; omega))
  clear hk CU CU9 hgc
  go_wp2_with fail
  refine hK.out _ _ ⟨fun o => cell_of_row _ _ o _ _ _ H6, fun o => cell_of_row _ _ o _ _ _ H7⟩ (fun _ => ?_)
  clear hK K'
  try (change wpAnyH _ _ _ _ _ _ _ (Act.put _ (some 18) _) _; dsimp only [Act.put])
  refine wpAnyH_ready (rs := [4]) (by kernel_rfl) (by simp) ?_
  refine AllReadyH.cons rfl (fun K' hK => ?_) AllReadyH.nil
  rw [if_pos (by rfl)]
  refine wp_store_row 32 (.tmp 2) (.tmp 15) rfl (w.heap.size) (planC Q0 Q1 Q2 Q3 d.n0 e0 d.n1 e1 d.n2 e2 d.n3 e3 d.l d.p d.t) rfl rfl 32 _ b2 HIP.out rfl (by simp [Value.oneCell']) ?_
  have kk := keepsRow_ v1 (w.heap.size) (planC Q0 Q1 Q2 Q3 d.n0 e0 d.n1 e1 d.n2 e2 d.n3 e3 d.l d.p d.t)
  replace KB := belowRow_ KB (B := w.heap.size) (by omega) (planC Q0 Q1 Q2 Q3 d.n0 e0 d.n1 e1 d.n2 e2 d.n3 e3 d.l d.p d.t)
  replace b3 := (setRow_other _ (w.heap.size) (w.heap.size + 1) (planC Q0 Q1 Q2 Q3 d.n0 e0 d.n1 e1 d.n2 e2 d.n3 e3 d.l d.p d.t) (by omega)).trans b3
  replace H6 := (setRow_other _ (w.heap.size) (R6) (planC Q0 Q1 Q2 Q3 d.n0 e0 d.n1 e1 d.n2 e2 d.n3 e3 d.l d.p d.t) (by omega)).trans H6
  replace H7 := (setRow_other _ (w.heap.size) (R7) (planC Q0 Q1 Q2 Q3 d.n0 e0 d.n1 e1 d.n2 e2 d.n3 e3 d.l d.p d.t) (by omega)).trans H7
  replace Lp := Lp.keeps kk b2 (by decide)
  replace Os := Os.keepsT kk b2 (by decide)
  replace b2 := setRow_heap _ _ _ (planC Q0 Q1 Q2 Q3 d.n0 e0 d.n1 e1 d.n2 e2 d.n3 e3 d.l d.p d.t) _ _ b2
  clear kk
  generalize v1.setRow (w.heap.size) (planC Q0 Q1 Q2 Q3 d.n0 e0 d.n1 e1 d.n2 e2 d.n3 e3 d.l d.p d.t) = v2 at KB b2 b3 H6 H7 Lp Os ⊢
  refine hK.out _ _ ⟨fun o => cell_of_row _ _ o _ _ _ H6, fun o => cell_of_row _ _ o _ _ _ H7⟩ (fun _ => ?_)
  clear hK K'
  try (change wpAnyH _ _ _ _ _ _ _ (Act.put _ none _) _; dsimp only [Act.put])
  refine wpAnyH_ready (rs := [5]) (by kernel_rfl) (by simp) ?_
  refine AllReadyH.cons rfl (fun K' hK => ?_) AllReadyH.nil
  rw [if_pos (by rfl)]
  refine wp_store_row 38 (.tmp 3) (.tmp 16) rfl (w.heap.size + 1) (stC Y0 Y1 Y2 Y3 ps.length f0 ms.length f1 ds.length f2 ls.length f3 ph co ck bo ba lb gd pr) rfl rfl 38 _ b3 HIS.out rfl (by simp [Value.oneCell']) ?_
  have kk := keepsRow_ v2 (w.heap.size + 1) (stC Y0 Y1 Y2 Y3 ps.length f0 ms.length f1 ds.length f2 ls.length f3 ph co ck bo ba lb gd pr)
  replace KB := belowRow_ KB (B := w.heap.size + 1) (by omega) (stC Y0 Y1 Y2 Y3 ps.length f0 ms.length f1 ds.length f2 ls.length f3 ph co ck bo ba lb gd pr)
  replace b2 := (setRow_other _ (w.heap.size + 1) (w.heap.size) (stC Y0 Y1 Y2 Y3 ps.length f0 ms.length f1 ds.length f2 ls.length f3 ph co ck bo ba lb gd pr) (by omega)).trans b2
  replace H6 := (setRow_other _ (w.heap.size + 1) (R6) (stC Y0 Y1 Y2 Y3 ps.length f0 ms.length f1 ds.length f2 ls.length f3 ph co ck bo ba lb gd pr) (by omega)).trans H6
  replace H7 := (setRow_other _ (w.heap.size + 1) (R7) (stC Y0 Y1 Y2 Y3 ps.length f0 ms.length f1 ds.length f2 ls.length f3 ph co ck bo ba lb gd pr) (by omega)).trans H7
  replace Lp := Lp.keeps kk b3 (by decide)
  replace Os := Os.keepsT kk b3 (by decide)
  replace b3 := setRow_heap _ _ _ (stC Y0 Y1 Y2 Y3 ps.length f0 ms.length f1 ds.length f2 ls.length f3 ph co ck bo ba lb gd pr) _ _ b3
  clear kk
  generalize v2.setRow (w.heap.size + 1) (stC Y0 Y1 Y2 Y3 ps.length f0 ms.length f1 ds.length f2 ls.length f3 ph co ck bo ba lb gd pr) = v3 at KB b2 b3 H6 H7 Lp Os ⊢
  refine hK.out _ _ ⟨fun o => cell_of_row _ _ o _ _ _ H6, fun o => cell_of_row _ _ o _ _ _ H7⟩ (fun _ => ?_)
  clear hK K'
  try (change wpAnyH _ _ _ _ _ _ _ (Act.put _ none _) _; dsimp only [Act.put])
  refine wpAnyH_ready (rs := [6]) (by kernel_rfl) (by simp) ?_
  refine AllReadyH.cons rfl (fun K' hK => ?_) AllReadyH.nil
  go_simp
  refine hK.out _ _ ⟨fun o => cell_of_row _ _ o _ _ _ H6, fun o => cell_of_row _ _ o _ _ _ H7⟩ (fun _ => ?_)
  clear hK K'
  try (change wpAnyH _ _ _ _ _ _ _ (Act.put _ (some 4) _) _; dsimp only [Act.put])
  refine wpAnyH_done (by kernel_rfl) ?_ _
  refine NoPanic.normal ?_
  go_wp2_with fail
  exact bodyPost_ret (v := .tuple #[.agg (planC Q0 Q1 Q2 Q3 d.n0 e0 d.n1 e1 d.n2 e2 d.n3 e3 d.l d.p d.t), .agg (stC Y0 Y1 Y2 Y3 ps.length f0 ms.length f1 ds.length f2 ls.length f3 ph co ck bo ba lb gd pr), .int .i64 k]) (results_cells_num Tryz.results15 _ _ _ _ _ _ _ _ _ _ _ _ _ rfl rfl rfl b2 b3 Tryz.underlying32 rfl HIP.out Tryz.underlying38 rfl HIS.out) rfl ⟨_, _, _, _, d, _, ⟨ph, co, ck, bo, ba, lb, ps, ms, ds, ls, gd, pr⟩, k, rfl, Lp, Os, hd, ⟨hs.s0, hs.s1, hs.s2, hs.s3⟩, KB⟩

set_option maxRecDepth 100000 in
set_option maxHeartbeats 8000000 in
theorem drawMayEvict_any (A : Option Addr) (n c : Nat) (w : World) (hB : Bytes w w.heap.size A n) (hn : n ≤ 4096) : Calls Tryz.prog 14 #[.slice A n c] w (GivesPSN w) := by
  have HIP : Hid ((Tryz.prog.info? 32).map (·.size) = some 7) := Lib.hid (by kernel_rfl)
  have HIS : Hid ((Tryz.prog.info? 38).map (·.size) = some 12) := Lib.hid (by kernel_rfl)
  have b2 : ((w.alloc (.cells (planC none none none none 0 0 0 0 0 0 0 0 0 0 0) 32)).alloc (.cells (stC none none none none 0 0 0 0 0 0 0 0 0 false 0 0 0 0 0 0) 38)).heap[w.heap.size]? = some (.cells (planC none none none none 0 0 0 0 0 0 0 0 0 0 0) 32) := by
    have hb := (Below.refl (w.alloc (.cells (planC none none none none 0 0 0 0 0 0 0 0 0 0 0) 32)).heap.size (w.alloc (.cells (planC none none none none 0 0 0 0 0 0 0 0 0 0 0) 32))).alloc (Nat.le_refl _) (.cells (stC none none none none 0 0 0 0 0 0 0 0 0 false 0 0 0 0 0 0) 38)
    exact (hb.block w.heap.size (by simp)).trans (heap_alloc_new w _)
  have b3 := heap_alloc2_new w (.cells (planC none none none none 0 0 0 0 0 0 0 0 0 0 0) 32) (.cells (stC none none none none 0 0 0 0 0 0 0 0 0 false 0 0 0 0 0 0) 38)
  have KB : Below w.heap.size w ((w.alloc (.cells (planC none none none none 0 0 0 0 0 0 0 0 0 0 0) 32)).alloc (.cells (stC none none none none 0 0 0 0 0 0 0 0 0 false 0 0 0 0 0 0) 38)) := ((Below.refl _ _).alloc (Nat.le_refl _) _).alloc (by simp) _
  have HB := Lib.hid ((hB.below KB (Nat.le_refl _)).more KB.size)
  clear hB
  go_enter Tryz.func14, Tryz.ntmps14
  go_wp2_with fail
  generalize ((w.alloc (.cells (planC none none none none 0 0 0 0 0 0 0 0 0 0 0) 32)).alloc (.cells (stC none none none none 0 0 0 0 0 0 0 0 0 false 0 0 0 0 0 0) 38)) = w0 at b2 b3 KB HB ⊢
  refine (l1New_any A n c w0 HB.out hn).mono ?_
  rintro e w1 ⟨g, rfl, hg, hc1, K1⟩
  have hz3 := (Array.getElem?_eq_some_iff.1 b3).1
  replace b2 := (K1.block _ (Array.getElem?_eq_some_iff.1 b2).1).trans b2
  replace b3 := (K1.block _ (Array.getElem?_eq_some_iff.1 b3).1).trans b3
  replace KB := KB.trans (K1.mono KB.size)
  clear K1 HB
  go_wp2_with fail
  refine (l5DrawAny_any g w1 hc1).mono ?_
  rintro e w2 ⟨v0, v1, v2, v3, d, vs, s, rfl, Lp, Os, hd, hs, CU, hk⟩
  replace b2 := (hk.block _ (Array.getElem?_eq_some_iff.1 b2).1 (by show ¬ w.heap.size = g; omega)).trans b2
  replace b3 := (hk.block _ (Array.getElem?_eq_some_iff.1 b3).1 (by show ¬ w.heap.size + 1 = g; omega)).trans b3
  have hl2 : g < w2.heap.size := CU.lt
  have hz4 := (Array.getElem?_eq_some_iff.1 b3).1
  replace Lp := Lp.base KB.size
  replace Os := Os.base KB.size
  replace KB := KB.trans (hk.below (B := w.heap.size) KB.size (by rintro b hb rfl; omega))
  clear hk hc1
  obtain ⟨y0, y1, y2, y3, rfl, -⟩ := Os.it
  obtain ⟨⟨Y0, f0, rfl⟩, ⟨Y1, f1, rfl⟩, ⟨Y2, f2, rfl⟩, ⟨Y3, f3, rfl⟩⟩ := Os.shapes
  obtain ⟨Q0, e0, rfl, -, -⟩ := Lp.o0.formR
  obtain ⟨Q1, e1, rfl, -, -⟩ := Lp.o1.formR
  obtain ⟨Q2, e2, rfl, -, -⟩ := Lp.o2.formR
  obtain ⟨Q3, e3, rfl, -, -⟩ := Lp.o3.formR
  have hA : Below w2.heap.size w2 ((w2.alloc (.cells (planC none none none none 0 0 0 0 0 0 0 0 0 0 0) 32)).alloc (.cells (stC none none none none 0 0 0 0 0 0 0 0 0 false 0 0 0 0 0 0) 38)) := ((Below.refl _ _).alloc (Nat.le_refl _) _).alloc (by simp) _
  have H6 : ((w2.alloc (.cells (planC none none none none 0 0 0 0 0 0 0 0 0 0 0) 32)).alloc (.cells (stC none none none none 0 0 0 0 0 0 0 0 0 false 0 0 0 0 0 0) 38)).heap[w2.heap.size]? = some (.cells (planC none none none none 0 0 0 0 0 0 0 0 0 0 0) 32) := by
    have hb := (Below.refl (w2.alloc (.cells (planC none none none none 0 0 0 0 0 0 0 0 0 0 0) 32)).heap.size (w2.alloc (.cells (planC none none none none 0 0 0 0 0 0 0 0 0 0 0) 32))).alloc (Nat.le_refl _) (.cells (stC none none none none 0 0 0 0 0 0 0 0 0 false 0 0 0 0 0 0) 38)
    exact (hb.block w2.heap.size (by simp)).trans (heap_alloc_new w2 _)
  have H7 := heap_alloc2_new w2 (.cells (planC none none none none 0 0 0 0 0 0 0 0 0 0 0) 32) (.cells (stC none none none none 0 0 0 0 0 0 0 0 0 false 0 0 0 0 0 0) 38)
  have H7' := (setRow_other ((w2.alloc (.cells (planC none none none none 0 0 0 0 0 0 0 0 0 0 0) 32)).alloc (.cells (stC none none none none 0 0 0 0 0 0 0 0 0 false 0 0 0 0 0 0) 38)) w2.heap.size _ (planC Q0 Q1 Q2 Q3 d.n0 e0 d.n1 e1 d.n2 e2 d.n3 e3 d.l d.p d.t) (Nat.succ_ne_self _)).trans H7
  go_upto_region 3 with (first
    | ((with_reducible refine store_plan (x := 6) (y := 13) (g := w2.heap.size) (cs := planC Q0 Q1 Q2 Q3 d.n0 e0 d.n1 e1 d.n2 e2 d.n3 e3 d.l d.p d.t) ?_ ?_ H6 ?_ ?_ ?_ ?_)
       · rfl
       · rfl
       · exact HIP.out
       · rfl
       · simp [Value.oneCell'])
    | ((with_reducible refine store_state (x := 7) (y := 14) (g := w2.heap.size + 1) (cs := stC Y0 Y1 Y2 Y3 s.pods.length f0 s.mnts.length f1 s.devs.length f2 s.lks.length f3 s.ph s.co s.ck s.bo s.ba s.lb s.gd s.pr) ?_ ?_ H7' ?_ ?_ ?_ ?_)
       · rfl
       · rfl
       · exact HIS.out
       · rfl
       · simp [Value.oneCell']))
  have h2w := KB.size
  have hw2 : w2.heap.size < w2.heap.size + 1 := Nat.lt_succ_self _
  have hA2 := below_setRow (below_setRow hA (Nat.le_refl _) (planC Q0 Q1 Q2 Q3 d.n0 e0 d.n1 e1 d.n2 e2 d.n3 e3 d.l d.p d.t)) (Nat.le_succ _) (stC Y0 Y1 Y2 Y3 s.pods.length f0 s.mnts.length f1 s.devs.length f2 s.lks.length f3 s.ph s.co s.ck s.bo s.ba s.lb s.gd s.pr)
  have G6 := (setRow_other (((w2.alloc (.cells (planC none none none none 0 0 0 0 0 0 0 0 0 0 0) 32)).alloc (.cells (stC none none none none 0 0 0 0 0 0 0 0 0 false 0 0 0 0 0 0) 38)).setRow w2.heap.size (planC Q0 Q1 Q2 Q3 d.n0 e0 d.n1 e1 d.n2 e2 d.n3 e3 d.l d.p d.t)) (w2.heap.size + 1) w2.heap.size (stC Y0 Y1 Y2 Y3 s.pods.length f0 s.mnts.length f1 s.devs.length f2 s.lks.length f3 s.ph s.co s.ck s.bo s.ba s.lb s.gd s.pr) (by omega)).trans (setRow_heap _ _ _ (planC Q0 Q1 Q2 Q3 d.n0 e0 d.n1 e1 d.n2 e2 d.n3 e3 d.l d.p d.t) _ _ H6)
  have G7 := setRow_heap (((w2.alloc (.cells (planC none none none none 0 0 0 0 0 0 0 0 0 0 0) 32)).alloc (.cells (stC none none none none 0 0 0 0 0 0 0 0 0 false 0 0 0 0 0 0) 38)).setRow w2.heap.size (planC Q0 Q1 Q2 Q3 d.n0 e0 d.n1 e1 d.n2 e2 d.n3 e3 d.l d.p d.t)) (w2.heap.size + 1) _ (stC Y0 Y1 Y2 Y3 s.pods.length f0 s.mnts.length f1 s.devs.length f2 s.lks.length f3 s.ph s.co s.ck s.bo s.ba s.lb s.gd s.pr) _ _ H7'
  clear H6 H7 H7' hA
  replace b2 := (hA2.block _ (Array.getElem?_eq_some_iff.1 b2).1).trans b2
  replace b3 := (hA2.block _ (Array.getElem?_eq_some_iff.1 b3).1).trans b3
  replace Lp := Lp.below hA2
  replace Os := Os.below hA2
  replace KB := KB.trans (hA2.mono KB.size)
  replace CU := CU.below hA2
  have hg2 : g < w2.heap.size := by assumption
  clear hA2 hw2
  generalize (((w2.alloc (.cells (planC none none none none 0 0 0 0 0 0 0 0 0 0 0) 32)).alloc (.cells (stC none none none none 0 0 0 0 0 0 0 0 0 false 0 0 0 0 0 0) 38)).setRow w2.heap.size (planC Q0 Q1 Q2 Q3 d.n0 e0 d.n1 e1 d.n2 e2 d.n3 e3 d.l d.p d.t)).setRow (w2.heap.size + 1) (stC Y0 Y1 Y2 Y3 s.pods.length f0 s.mnts.length f1 s.devs.length f2 s.lks.length f3 s.ph s.co s.ck s.bo s.ba s.lb s.gd s.pr) = w3 at b2 b3 G6 G7 Lp Os KB CU ⊢
  obtain ⟨R7, hR7⟩ : ∃ R, w2.heap.size + 1 = R := ⟨_, rfl⟩
  rw [hR7] at G7 ⊢
  generalize w2.heap.size = R6 at G6 hR7 hz4 hl2 hg2 h2w ⊢
  have H6 := G6
  have H7 := G7
  clear G6 G7
  obtain ⟨ph, co, ck, bo, ba, lb, ps, ms, ds, ls, gd, pr⟩ := s
  dsimp only at Os H7 hs ⊢
  have hs0 : ps.length ≤ 12 := hs.s0
  go_wp2_with fail
  refine (l1Once_any g 2 w3 CU (by omega) (by omega)).mono ?_
  rintro e w4 ⟨b, rfl, CU4, hk⟩
  obtain ⟨gcs, hgc⟩ := CU.cells
  replace Lp := Lp.keeps hk hgc (by decide)
  replace Os := Os.keepsT hk hgc (by decide)
  replace b2 := (hk.block _ (Array.getElem?_eq_some_iff.1 b2).1 (by show ¬ w.heap.size = g; omega)).trans b2
  replace b3 := (hk.block _ (Array.getElem?_eq_some_iff.1 b3).1 (by show ¬ w.heap.size + 1 = g; omega)).trans b3
  replace H6 := (hk.block _ (Array.getElem?_eq_some_iff.1 H6).1 (by show ¬ R6 = g; omega)).trans H6
  replace H7 := (hk.block _ (Array.getElem?_eq_some_iff.1 H7).1 (by show ¬ R7 = g; omega)).trans H7
  replace KB := KB.trans (hk.below (B := w.heap.size) KB.size (by rintro b hb rfl; omega))
  clear hk CU hgc
  have CU := CU4
  clear CU4
  cases b
  · go_upto_region 6 with fail
    refine wp_region_noPanic ?_
    refine wp_region_held_drew (S := fun W => (∀ o, W.cell? ⟨R6, o, none⟩ = (planC Q0 Q1 Q2 Q3 d.n0 e0 d.n1 e1 d.n2 e2 d.n3 e3 d.l d.p d.t)[o]?) ∧ (∀ o, W.cell? ⟨R7, o, none⟩ = (stC Y0 Y1 Y2 Y3 ps.length f0 ms.length f1 ds.length f2 ls.length f3 ph co ck bo ba lb gd pr)[o]?)) (by kernel_rfl) (by rw [← heap_drew w4] at H6 H7; exact ⟨fun o => cell_of_row _ _ o _ _ _ H6, fun o => cell_of_row _ _ o _ _ _ H7⟩) (fun _ => ?_)
    rw [← heap_drew w4] at b2 b3 H6 H7
    replace Lp := Lp.below (Below.refl _ _).drew
    replace Os := Os.below (Below.refl _ _).drew
    replace KB := KB.drew
    replace CU := CU.below (Below.refl _ _).drew
    generalize w4.drew = v0 at KB b2 b3 H6 H7 Lp Os CU ⊢
    refine wpAnyH_take (i := 0) (v := ?_) rfl (by kernel_rfl) (by kernel_rfl) (by kernel_rfl) (fun _ _ _ h => h) (Or.inl ⟨by rfl, ?_⟩) ⟨fun o => cell_of_row _ _ o _ _ _ H6, fun o => cell_of_row _ _ o _ _ _ H7⟩ ?_
    rotate_left 1
    · intro w hSw
      obtain ⟨hs6, hs7⟩ := hSw
      go_simp
      try with_reducible rfl
    change wpAnyH _ _ _ _ _ _ _ (Act.put _ (some 19) _) _
    dsimp only [Act.put]
    refine wpAnyH_take (i := 1) (v := ?_) rfl (by kernel_rfl) (by kernel_rfl) (by kernel_rfl) (fun _ _ _ h => h) (Or.inl ⟨by rfl, ?_⟩) ⟨fun o => cell_of_row _ _ o _ _ _ H6, fun o => cell_of_row _ _ o _ _ _ H7⟩ ?_
    rotate_left 1
    · intro w hSw
      obtain ⟨hs6, hs7⟩ := hSw
      go_simp
      try with_reducible rfl
    change wpAnyH _ _ _ _ _ _ _ (Act.put _ (some 20) _) _
    dsimp only [Act.put]
    refine wpAnyH_take (i := 2) (v := ?_) rfl (by kernel_rfl) (by kernel_rfl) (by kernel_rfl) (fun _ _ _ h => h) (Or.inl ⟨by rfl, ?_⟩) ⟨fun o => cell_of_row _ _ o _ _ _ H6, fun o => cell_of_row _ _ o _ _ _ H7⟩ ?_
    rotate_left 1
    · intro w hSw
      obtain ⟨hs6, hs7⟩ := hSw
      go_simp
      try with_reducible rfl
    change wpAnyH _ _ _ _ _ _ _ (Act.put _ (some 21) _) _
    dsimp only [Act.put]
    refine wpAnyH_take (i := 3) (v := ?_) rfl (by kernel_rfl) (by kernel_rfl) (by kernel_rfl) (fun _ _ _ h => h) (Or.inl ⟨by rfl, ?_⟩) ⟨fun o => cell_of_row _ _ o _ _ _ H6, fun o => cell_of_row _ _ o _ _ _ H7⟩ ?_
    rotate_left 1
    · intro w hSw
      obtain ⟨hs6, hs7⟩ := hSw
      go_simp
      try with_reducible rfl
    change wpAnyH _ _ _ _ _ _ _ (Act.put _ (some 22) _) _
    dsimp only [Act.put]
    refine wpAnyH_take (i := 4) (v := ?_) rfl (by kernel_rfl) (by kernel_rfl) (by kernel_rfl) (fun _ _ _ h => h) (Or.inl ⟨by rfl, ?_⟩) ⟨fun o => cell_of_row _ _ o _ _ _ H6, fun o => cell_of_row _ _ o _ _ _ H7⟩ ?_
    rotate_left 1
    · intro w hSw
      obtain ⟨hs6, hs7⟩ := hSw
      go_simp
      try with_reducible rfl
    change wpAnyH _ _ _ _ _ _ _ (Act.put _ (some 23) _) _
    dsimp only [Act.put]
    refine wpAnyH_take (i := 5) (v := ?_) rfl (by kernel_rfl) (by kernel_rfl) (by kernel_rfl) (fun _ _ _ h => h) (Or.inl ⟨by rfl, ?_⟩) ⟨fun o => cell_of_row _ _ o _ _ _ H6, fun o => cell_of_row _ _ o _ _ _ H7⟩ ?_
    rotate_left 1
    · intro w hSw
      obtain ⟨hs6, hs7⟩ := hSw
      go_simp
      try with_reducible rfl
    change wpAnyH _ _ _ _ _ _ _ (Act.put _ (some 24) _) _
    dsimp only [Act.put]
    refine wpAnyH_ready (rs := [6]) (by kernel_rfl) (by simp) ?_
    refine AllReadyH.cons rfl (fun K' hK => ?_) AllReadyH.nil
    go_simp
    go_at_call 34
    refine (l1From_any g (-1) ps.length v0 CU (by omega) (by omega) (by omega) (by omega)).mono ?_
    rintro e v1 ⟨k, rfl, -, -, CU9, hk⟩
    obtain ⟨gcs, hgc⟩ := CU.cells
    replace Lp := Lp.keeps hk hgc (by decide)
    replace Os := Os.keepsT hk hgc (by decide)
    replace b2 := (hk.block _ (Array.getElem?_eq_some_iff.1 b2).1 (by show ¬ w.heap.size = g; omega)).trans b2
    replace b3 := (hk.block _ (Array.getElem?_eq_some_iff.1 b3).1 (by show ¬ w.heap.size + 1 = g; omega)).trans b3
    replace H6 := (hk.block _ (Array.getElem?_eq_some_iff.1 H6).1 (by show ¬ R6 = g; omega)).trans H6
    replace H7 := (hk.block _ (Array.getElem?_eq_some_iff.1 H7).1 (by show ¬ R7 = g; omega)).trans H7
    replace KB := KB.trans (hk.below (B := w.heap.size) KB.size (by rintro b hb rfl; omega))
    clear hk CU CU9 hgc
    go_wp2_with fail
    refine hK.out _ _ ⟨fun o => cell_of_row _ _ o _ _ _ H6, fun o => cell_of_row _ _ o _ _ _ H7⟩ (fun _ => ?_)
    clear hK K'
    try (change wpAnyH _ _ _ _ _ _ _ (Act.put _ (some 25) _) _; dsimp only [Act.put])
    refine wpAnyH_ready (rs := [7]) (by kernel_rfl) (by simp) ?_
    refine AllReadyH.cons rfl (fun K' hK => ?_) AllReadyH.nil
    rw [if_pos (by rfl)]
    refine wp_store_row 32 (.tmp 2) (.tmp 19) rfl (w.heap.size) (planC Q0 Q1 Q2 Q3 d.n0 e0 d.n1 e1 d.n2 e2 d.n3 e3 d.l d.p d.t) rfl rfl 32 _ b2 HIP.out rfl (by simp [Value.oneCell']) ?_
    have kk := keepsRow_ v1 (w.heap.size) (planC Q0 Q1 Q2 Q3 d.n0 e0 d.n1 e1 d.n2 e2 d.n3 e3 d.l d.p d.t)
    replace KB := belowRow_ KB (B := w.heap.size) (by omega) (planC Q0 Q1 Q2 Q3 d.n0 e0 d.n1 e1 d.n2 e2 d.n3 e3 d.l d.p d.t)
    replace b3 := (setRow_other _ (w.heap.size) (w.heap.size + 1) (planC Q0 Q1 Q2 Q3 d.n0 e0 d.n1 e1 d.n2 e2 d.n3 e3 d.l d.p d.t) (by omega)).trans b3
    replace H6 := (setRow_other _ (w.heap.size) (R6) (planC Q0 Q1 Q2 Q3 d.n0 e0 d.n1 e1 d.n2 e2 d.n3 e3 d.l d.p d.t) (by omega)).trans H6
    replace H7 := (setRow_other _ (w.heap.size) (R7) (planC Q0 Q1 Q2 Q3 d.n0 e0 d.n1 e1 d.n2 e2 d.n3 e3 d.l d.p d.t) (by omega)).trans H7
    replace Lp := Lp.keeps kk b2 (by decide)
    replace Os := Os.keepsT kk b2 (by decide)
    replace b2 := setRow_heap _ _ _ (planC Q0 Q1 Q2 Q3 d.n0 e0 d.n1 e1 d.n2 e2 d.n3 e3 d.l d.p d.t) _ _ b2
    clear kk
    generalize v1.setRow (w.heap.size) (planC Q0 Q1 Q2 Q3 d.n0 e0 d.n1 e1 d.n2 e2 d.n3 e3 d.l d.p d.t) = v2 at KB b2 b3 H6 H7 Lp Os ⊢
    refine hK.out _ _ ⟨fun o => cell_of_row _ _ o _ _ _ H6, fun o => cell_of_row _ _ o _ _ _ H7⟩ (fun _ => ?_)
    clear hK K'
    try (change wpAnyH _ _ _ _ _ _ _ (Act.put _ none _) _; dsimp only [Act.put])
    refine wpAnyH_ready (rs := [8]) (by kernel_rfl) (by simp) ?_
    refine AllReadyH.cons rfl (fun K' hK => ?_) AllReadyH.nil
    rw [if_pos (by rfl)]
    refine wp_store_row 38 (.tmp 3) (.tmp 20) rfl (w.heap.size + 1) (stC Y0 Y1 Y2 Y3 ps.length f0 ms.length f1 ds.length f2 ls.length f3 ph co ck bo ba lb gd pr) rfl rfl 38 _ b3 HIS.out rfl (by simp [Value.oneCell']) ?_
    have kk := keepsRow_ v2 (w.heap.size + 1) (stC Y0 Y1 Y2 Y3 ps.length f0 ms.length f1 ds.length f2 ls.length f3 ph co ck bo ba lb gd pr)
    replace KB := belowRow_ KB (B := w.heap.size + 1) (by omega) (stC Y0 Y1 Y2 Y3 ps.length f0 ms.length f1 ds.length f2 ls.length f3 ph co ck bo ba lb gd pr)
    replace b2 := (setRow_other _ (w.heap.size + 1) (w.heap.size) (stC Y0 Y1 Y2 Y3 ps.length f0 ms.length f1 ds.length f2 ls.length f3 ph co ck bo ba lb gd pr) (by omega)).trans b2
    replace H6 := (setRow_other _ (w.heap.size + 1) (R6) (stC Y0 Y1 Y2 Y3 ps.length f0 ms.length f1 ds.length f2 ls.length f3 ph co ck bo ba lb gd pr) (by omega)).trans H6
    replace H7 := (setRow_other _ (w.heap.size + 1) (R7) (stC Y0 Y1 Y2 Y3 ps.length f0 ms.length f1 ds.length f2 ls.length f3 ph co ck bo ba lb gd pr) (by omega)).trans H7
    replace Lp := Lp.keeps kk b3 (by decide)
    replace Os := Os.keepsT kk b3 (by decide)
    replace b3 := setRow_heap _ _ _ (stC Y0 Y1 Y2 Y3 ps.length f0 ms.length f1 ds.length f2 ls.length f3 ph co ck bo ba lb gd pr) _ _ b3
    clear kk
    generalize v2.setRow (w.heap.size + 1) (stC Y0 Y1 Y2 Y3 ps.length f0 ms.length f1 ds.length f2 ls.length f3 ph co ck bo ba lb gd pr) = v3 at KB b2 b3 H6 H7 Lp Os ⊢
    refine hK.out _ _ ⟨fun o => cell_of_row _ _ o _ _ _ H6, fun o => cell_of_row _ _ o _ _ _ H7⟩ (fun _ => ?_)
    clear hK K'
    try (change wpAnyH _ _ _ _ _ _ _ (Act.put _ none _) _; dsimp only [Act.put])
    refine wpAnyH_ready (rs := [9]) (by kernel_rfl) (by simp) ?_
    refine AllReadyH.cons rfl (fun K' hK => ?_) AllReadyH.nil
    go_simp
    refine hK.out _ _ ⟨fun o => cell_of_row _ _ o _ _ _ H6, fun o => cell_of_row _ _ o _ _ _ H7⟩ (fun _ => ?_)
    clear hK K'
    try (change wpAnyH _ _ _ _ _ _ _ (Act.put _ (some 4) _) _; dsimp only [Act.put])
    refine wpAnyH_done (by kernel_rfl) ?_ _
    refine NoPanic.normal ?_
    go_wp2_with fail
    exact bodyPost_ret (v := .tuple #[.agg (planC Q0 Q1 Q2 Q3 d.n0 e0 d.n1 e1 d.n2 e2 d.n3 e3 d.l d.p d.t), .agg (stC Y0 Y1 Y2 Y3 ps.length f0 ms.length f1 ds.length f2 ls.length f3 ph co ck bo ba lb gd pr), .int .i64 k]) (results_cells_num Tryz.results14 _ _ _ _ _ _ _ _ _ _ _ _ _ rfl rfl rfl b2 b3 Tryz.underlying32 rfl HIP.out Tryz.underlying38 rfl HIS.out) rfl ⟨_, _, _, _, d, _, ⟨ph, co, ck, bo, ba, lb, ps, ms, ds, ls, gd, pr⟩, k, rfl, Lp, Os, hd, ⟨hs.s0, hs.s1, hs.s2, hs.s3⟩, KB⟩
  · have hC7 : ∀ o, w4.cell? ⟨R7, o, none⟩ = (stC Y0 Y1 Y2 Y3 ps.length f0 ms.length f1 ds.length f2 ls.length f3 ph co ck bo ba lb gd pr)[o]? := fun o => cell_of_row _ _ o _ _ _ H7
    have hF7 : ∀ o, w4.frozen? ⟨R7, o, none⟩ = false := fun o => frozen_of_row _ _ _ _ _ H7
    go_upto_region 6 with fail
    have h7a := heap_setCell_same w4 R7 0 _ _ (.int .i64 2) H7
    have h7b := heap_setCell_same (w4.setCell ⟨R7, 0, none⟩ (.int .i64 2)) R7 1 _ _ (.bool true) h7a
    have kk : Keeps (· = R7) w4 ((w4.setCell ⟨R7, 0, none⟩ (.int .i64 2)).setCell ⟨R7, 1, none⟩ (.bool true)) := Keeps.set (S := (· = R7)) (Keeps.set (S := (· = R7)) (Keeps.refl _ _) rfl _) rfl _
    replace Lp := Lp.keeps kk H7 (by decide)
    replace Os := (Os.keepsT kk H7 (by decide)).nums 2 true ck bo ba lb gd pr
    replace b2 := (kk.block _ (Array.getElem?_eq_some_iff.1 b2).1 (by show ¬ w.heap.size = R7; omega)).trans b2
    replace b3 := (kk.block _ (Array.getElem?_eq_some_iff.1 b3).1 (by show ¬ w.heap.size + 1 = R7; omega)).trans b3
    replace H6 := (kk.block _ (Array.getElem?_eq_some_iff.1 H6).1 (by show ¬ R6 = R7; omega)).trans H6
    replace KB := KB.trans (kk.below (B := w.heap.size) KB.size (by rintro b hb rfl; omega))
    replace CU := CU.keeps kk (fun b hb e => by omega)
    replace H7 : ((w4.setCell ⟨R7, 0, none⟩ (.int .i64 2)).setCell ⟨R7, 1, none⟩ (.bool true)).heap[R7]? = some (.cells (stC Y0 Y1 Y2 Y3 ps.length f0 ms.length f1 ds.length f2 ls.length f3 2 true ck bo ba lb gd pr) 38) := h7b
    clear h7a h7b kk hC7 hF7
    generalize (w4.setCell ⟨R7, 0, none⟩ (.int .i64 2)).setCell ⟨R7, 1, none⟩ (.bool true) = w5 at KB b2 b3 H6 H7 Lp Os CU ⊢
    refine wp_region_noPanic ?_
    refine wp_region_held_drew (S := fun W => (∀ o, W.cell? ⟨R6, o, none⟩ = (planC Q0 Q1 Q2 Q3 d.n0 e0 d.n1 e1 d.n2 e2 d.n3 e3 d.l d.p d.t)[o]?) ∧ (∀ o, W.cell? ⟨R7, o, none⟩ = (stC Y0 Y1 Y2 Y3 ps.length f0 ms.length f1 ds.length f2 ls.length f3 2 true ck bo ba lb gd pr)[o]?)) (by kernel_rfl) (by rw [← heap_drew w5] at H6 H7; exact ⟨fun o => cell_of_row _ _ o _ _ _ H6, fun o => cell_of_row _ _ o _ _ _ H7⟩) (fun _ => ?_)
    rw [← heap_drew w5] at b2 b3 H6 H7
    replace Lp := Lp.below (Below.refl _ _).drew
    replace Os := Os.below (Below.refl _ _).drew
    replace KB := KB.drew
    replace CU := CU.below (Below.refl _ _).drew
    generalize w5.drew = v0 at KB b2 b3 H6 H7 Lp Os CU ⊢
    refine wpAnyH_take (i := 0) (v := ?_) rfl (by kernel_rfl) (by kernel_rfl) (by kernel_rfl) (fun _ _ _ h => h) (Or.inl ⟨by rfl, ?_⟩) ⟨fun o => cell_of_row _ _ o _ _ _ H6, fun o => cell_of_row _ _ o _ _ _ H7⟩ ?_
    rotate_left 1
    · intro w hSw
      obtain ⟨hs6, hs7⟩ := hSw
      go_simp
      try with_reducible rfl
    change wpAnyH _ _ _ _ _ _ _ (Act.put _ (some 19) _) _
    dsimp only [Act.put]
    refine wpAnyH_take (i := 1) (v := ?_) rfl (by kernel_rfl) (by kernel_rfl) (by kernel_rfl) (fun _ _ _ h => h) (Or.inl ⟨by rfl, ?_⟩) ⟨fun o => cell_of_row _ _ o _ _ _ H6, fun o => cell_of_row _ _ o _ _ _ H7⟩ ?_
    rotate_left 1
    · intro w hSw
      obtain ⟨hs6, hs7⟩ := hSw
      go_simp
      try with_reducible rfl
    change wpAnyH _ _ _ _ _ _ _ (Act.put _ (some 20) _) _
    dsimp only [Act.put]
    refine wpAnyH_take (i := 2) (v := ?_) rfl (by kernel_rfl) (by kernel_rfl) (by kernel_rfl) (fun _ _ _ h => h) (Or.inl ⟨by rfl, ?_⟩) ⟨fun o => cell_of_row _ _ o _ _ _ H6, fun o => cell_of_row _ _ o _ _ _ H7⟩ ?_
    rotate_left 1
    · intro w hSw
      obtain ⟨hs6, hs7⟩ := hSw
      go_simp
      try with_reducible rfl
    change wpAnyH _ _ _ _ _ _ _ (Act.put _ (some 21) _) _
    dsimp only [Act.put]
    refine wpAnyH_take (i := 3) (v := ?_) rfl (by kernel_rfl) (by kernel_rfl) (by kernel_rfl) (fun _ _ _ h => h) (Or.inl ⟨by rfl, ?_⟩) ⟨fun o => cell_of_row _ _ o _ _ _ H6, fun o => cell_of_row _ _ o _ _ _ H7⟩ ?_
    rotate_left 1
    · intro w hSw
      obtain ⟨hs6, hs7⟩ := hSw
      go_simp
      try with_reducible rfl
    change wpAnyH _ _ _ _ _ _ _ (Act.put _ (some 22) _) _
    dsimp only [Act.put]
    refine wpAnyH_take (i := 4) (v := ?_) rfl (by kernel_rfl) (by kernel_rfl) (by kernel_rfl) (fun _ _ _ h => h) (Or.inl ⟨by rfl, ?_⟩) ⟨fun o => cell_of_row _ _ o _ _ _ H6, fun o => cell_of_row _ _ o _ _ _ H7⟩ ?_
    rotate_left 1
    · intro w hSw
      obtain ⟨hs6, hs7⟩ := hSw
      go_simp
      try with_reducible rfl
    change wpAnyH _ _ _ _ _ _ _ (Act.put _ (some 23) _) _
    dsimp only [Act.put]
    refine wpAnyH_take (i := 5) (v := ?_) rfl (by kernel_rfl) (by kernel_rfl) (by kernel_rfl) (fun _ _ _ h => h) (Or.inl ⟨by rfl, ?_⟩) ⟨fun o => cell_of_row _ _ o _ _ _ H6, fun o => cell_of_row _ _ o _ _ _ H7⟩ ?_
    rotate_left 1
    · intro w hSw
      obtain ⟨hs6, hs7⟩ := hSw
      go_simp
      try with_reducible rfl
    change wpAnyH _ _ _ _ _ _ _ (Act.put _ (some 24) _) _
    dsimp only [Act.put]
    refine wpAnyH_ready (rs := [6]) (by kernel_rfl) (by simp) ?_
    refine AllReadyH.cons rfl (fun K' hK => ?_) AllReadyH.nil
    go_simp
    go_at_call 34
    refine (l1From_any g (-1) ps.length v0 CU (by omega) (by omega) (by omega) (by omega)).mono ?_
    rintro e v1 ⟨k, rfl, -, -, CU9, hk⟩
    obtain ⟨gcs, hgc⟩ := CU.cells
    replace Lp := Lp.keeps hk hgc (by decide)
    replace Os := Os.keepsT hk hgc (by decide)
    replace b2 := (hk.block _ (Array.getElem?_eq_some_iff.1 b2).1 (by show ¬ w.heap.size = g; omega)).trans b2
    replace b3 := (hk.block _ (Array.getElem?_eq_some_iff.1 b3).1 (by show ¬ w.heap.size + 1 = g; omega)).trans b3
    replace H6 := (hk.block _ (Array.getElem?_eq_some_iff.1 H6).1 (by show ¬ R6 = g; omega)).trans H6
    replace H7 := (hk.block _ (Array.getElem?_eq_some_iff.1 H7).1 (by show ¬ R7 = g; omega)).trans H7
    replace KB := KB.trans (hk.below (B := w.heap.size) KB.size (by rintro b hb rfl; omega))
    clear hk CU CU9 hgc
    go_wp2_with fail
    refine hK.out _ _ ⟨fun o => cell_of_row _ _ o _ _ _ H6, fun o => cell_of_row _ _ o _ _ _ H7⟩ (fun _ => ?_)
    clear hK K'
    try (change wpAnyH _ _ _ _ _ _ _ (Act.put _ (some 25) _) _; dsimp only [Act.put])
    refine wpAnyH_ready (rs := [7]) (by kernel_rfl) (by simp) ?_
    refine AllReadyH.cons rfl (fun K' hK => ?_) AllReadyH.nil
    rw [if_pos (by rfl)]
    refine wp_store_row 32 (.tmp 2) (.tmp 19) rfl (w.heap.size) (planC Q0 Q1 Q2 Q3 d.n0 e0 d.n1 e1 d.n2 e2 d.n3 e3 d.l d.p d.t) rfl rfl 32 _ b2 HIP.out rfl (by simp [Value.oneCell']) ?_
    have kk := keepsRow_ v1 (w.heap.size) (planC Q0 Q1 Q2 Q3 d.n0 e0 d.n1 e1 d.n2 e2 d.n3 e3 d.l d.p d.t)
    replace KB := belowRow_ KB (B := w.heap.size) (by omega) (planC Q0 Q1 Q2 Q3 d.n0 e0 d.n1 e1 d.n2 e2 d.n3 e3 d.l d.p d.t)
    replace b3 := (setRow_other _ (w.heap.size) (w.heap.size + 1) (planC Q0 Q1 Q2 Q3 d.n0 e0 d.n1 e1 d.n2 e2 d.n3 e3 d.l d.p d.t) (by omega)).trans b3
    replace H6 := (setRow_other _ (w.heap.size) (R6) (planC Q0 Q1 Q2 Q3 d.n0 e0 d.n1 e1 d.n2 e2 d.n3 e3 d.l d.p d.t) (by omega)).trans H6
    replace H7 := (setRow_other _ (w.heap.size) (R7) (planC Q0 Q1 Q2 Q3 d.n0 e0 d.n1 e1 d.n2 e2 d.n3 e3 d.l d.p d.t) (by omega)).trans H7
    replace Lp := Lp.keeps kk b2 (by decide)
    replace Os := Os.keepsT kk b2 (by decide)
    replace b2 := setRow_heap _ _ _ (planC Q0 Q1 Q2 Q3 d.n0 e0 d.n1 e1 d.n2 e2 d.n3 e3 d.l d.p d.t) _ _ b2
    clear kk
    generalize v1.setRow (w.heap.size) (planC Q0 Q1 Q2 Q3 d.n0 e0 d.n1 e1 d.n2 e2 d.n3 e3 d.l d.p d.t) = v2 at KB b2 b3 H6 H7 Lp Os ⊢
    refine hK.out _ _ ⟨fun o => cell_of_row _ _ o _ _ _ H6, fun o => cell_of_row _ _ o _ _ _ H7⟩ (fun _ => ?_)
    clear hK K'
    try (change wpAnyH _ _ _ _ _ _ _ (Act.put _ none _) _; dsimp only [Act.put])
    refine wpAnyH_ready (rs := [8]) (by kernel_rfl) (by simp) ?_
    refine AllReadyH.cons rfl (fun K' hK => ?_) AllReadyH.nil
    rw [if_pos (by rfl)]
    refine wp_store_row 38 (.tmp 3) (.tmp 20) rfl (w.heap.size + 1) (stC Y0 Y1 Y2 Y3 ps.length f0 ms.length f1 ds.length f2 ls.length f3 2 true ck bo ba lb gd pr) rfl rfl 38 _ b3 HIS.out rfl (by simp [Value.oneCell']) ?_
    have kk := keepsRow_ v2 (w.heap.size + 1) (stC Y0 Y1 Y2 Y3 ps.length f0 ms.length f1 ds.length f2 ls.length f3 2 true ck bo ba lb gd pr)
    replace KB := belowRow_ KB (B := w.heap.size + 1) (by omega) (stC Y0 Y1 Y2 Y3 ps.length f0 ms.length f1 ds.length f2 ls.length f3 2 true ck bo ba lb gd pr)
    replace b2 := (setRow_other _ (w.heap.size + 1) (w.heap.size) (stC Y0 Y1 Y2 Y3 ps.length f0 ms.length f1 ds.length f2 ls.length f3 2 true ck bo ba lb gd pr) (by omega)).trans b2
    replace H6 := (setRow_other _ (w.heap.size + 1) (R6) (stC Y0 Y1 Y2 Y3 ps.length f0 ms.length f1 ds.length f2 ls.length f3 2 true ck bo ba lb gd pr) (by omega)).trans H6
    replace H7 := (setRow_other _ (w.heap.size + 1) (R7) (stC Y0 Y1 Y2 Y3 ps.length f0 ms.length f1 ds.length f2 ls.length f3 2 true ck bo ba lb gd pr) (by omega)).trans H7
    replace Lp := Lp.keeps kk b3 (by decide)
    replace Os := Os.keepsT kk b3 (by decide)
    replace b3 := setRow_heap _ _ _ (stC Y0 Y1 Y2 Y3 ps.length f0 ms.length f1 ds.length f2 ls.length f3 2 true ck bo ba lb gd pr) _ _ b3
    clear kk
    generalize v2.setRow (w.heap.size + 1) (stC Y0 Y1 Y2 Y3 ps.length f0 ms.length f1 ds.length f2 ls.length f3 2 true ck bo ba lb gd pr) = v3 at KB b2 b3 H6 H7 Lp Os ⊢
    refine hK.out _ _ ⟨fun o => cell_of_row _ _ o _ _ _ H6, fun o => cell_of_row _ _ o _ _ _ H7⟩ (fun _ => ?_)
    clear hK K'
    try (change wpAnyH _ _ _ _ _ _ _ (Act.put _ none _) _; dsimp only [Act.put])
    refine wpAnyH_ready (rs := [9]) (by kernel_rfl) (by simp) ?_
    refine AllReadyH.cons rfl (fun K' hK => ?_) AllReadyH.nil
    go_simp
    refine hK.out _ _ ⟨fun o => cell_of_row _ _ o _ _ _ H6, fun o => cell_of_row _ _ o _ _ _ H7⟩ (fun _ => ?_)
    clear hK K'
    try (change wpAnyH _ _ _ _ _ _ _ (Act.put _ (some 4) _) _; dsimp only [Act.put])
    refine wpAnyH_done (by kernel_rfl) ?_ _
    refine NoPanic.normal ?_
    go_wp2_with fail
    exact bodyPost_ret (v := .tuple #[.agg (planC Q0 Q1 Q2 Q3 d.n0 e0 d.n1 e1 d.n2 e2 d.n3 e3 d.l d.p d.t), .agg (stC Y0 Y1 Y2 Y3 ps.length f0 ms.length f1 ds.length f2 ls.length f3 2 true ck bo ba lb gd pr), .int .i64 k]) (results_cells_num Tryz.results14 _ _ _ _ _ _ _ _ _ _ _ _ _ rfl rfl rfl b2 b3 Tryz.underlying32 rfl HIP.out Tryz.underlying38 rfl HIS.out) rfl ⟨_, _, _, _, d, _, ⟨2, true, ck, bo, ba, lb, ps, ms, ds, ls, gd, pr⟩, k, rfl, Lp, Os, hd, ⟨hs.s0, hs.s1, hs.s2, hs.s3⟩, KB⟩
end Go.Proofs.YtfibgpikjfopgaaGreat
