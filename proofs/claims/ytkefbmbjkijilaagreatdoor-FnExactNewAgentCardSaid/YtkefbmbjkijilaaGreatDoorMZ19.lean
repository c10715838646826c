/-
  What the exact laws of AgentOk, NewAgent and Recovered rest on (a stub).
-/
import Derived.Test.YtkefbmbjkijilaaGreatDoorMZxZm
import Derived.Test.YtkefbmbjkijilaaGreatDoorMZxPu
import Derived.Test.YtkefbmbjkijilaaGreatDoorMZxPv
import Derived.Test.YtkefbmbjkijilaaGreatDoorMZ17
import Derived.Test.YtkefbmbjkijilaaGreatDoorMZxWc
import Derived.Test.YtkefbmbjkijilaaGreatDoorMZ8
import Derived.Test.YtkefbmbjkijilaaGreatDoorMZ9
import Derived.Test.YtkefbmbjkijilaaGreatDoorMZxZk
import Derived.Test.YtkefbmbjkijilaaGreatDoorMZxGk
import Derived.Test.YtkefbmbjkijilaaGreatDoorMZ13
import Derived.Test.YtkefbmbjkijilaaGreatDoorMZ18
import Derived.Test.YtkefbmbjkijilaaGreatDoorMZxVnA
import Derived.Test.YtkefbmbjkijilaaGreatDoorMZxGr
import Derived.Test.YtkefbmbjkijilaaGreatDoorMZ2
import Derived.Test.YtkefbmbjkijilaaGreatDoorMZ6
/- Zn -/
namespace Go.Proofs.YtkefbmbjkijilaaGreatDoor
open Go.RowKit

end Go.Proofs.YtkefbmbjkijilaaGreatDoor
/- Zo -/
set_option linter.unusedVariables false
namespace Go.Proofs.YtkefbmbjkijilaaGreatDoor
open Go.RowKit

theorem store_state {ops : Array Oper} {rest : List Oper} {dst : Option Tmp} {ty : TypeId} {pos : String} {after : Array Edge} {a : Act} {w : World} {Q : Exit → Act → World → Prop} {g x y : Nat} {cs old : Array Value}
    (hx : a.eval (.tmp x) = .pointer (some ⟨g, 0, none⟩)) (hy : a.eval (.tmp y) = .agg cs) (hg : w.heap[g]? = some (.cells old 46)) (hi : (Tryz.prog.info? 46).map (·.size) = some cs.size) (hold : old.size = cs.size) (h1 : cs.all (·.oneCell') = true)
    (h : wpList Tryz.prog ops Q rest (a.put dst undef) (w.setRow g cs)) : wpList Tryz.prog ops Q (Oper.mk dst (.store 46 (.tmp x) (.tmp y)) ty pos after none :: rest) a w :=
  wpList_store_row rfl 46 (.tmp x) (.tmp y) rfl g cs hx hy 46 old hg hi hold h1 h
end Go.Proofs.YtkefbmbjkijilaaGreatDoor
/- Na -/
set_option linter.unusedVariables false
namespace Go.Proofs.YtkefbmbjkijilaaGreatDoor
open Go.RowKit

theorem load_state {ops : Array Oper} {rest : List Oper} {dst : Option Tmp} {ty : TypeId} {pos : String} {after : Array Edge} {a : Act} {w : World} {Q : Exit → Act → World → Prop} {g x : Nat} {cs : Array Value}
    (hx : a.eval (.tmp x) = .pointer (some ⟨g, 0, none⟩)) (hg : w.heap[g]? = some (.cells cs 46)) (hi : (Tryz.prog.info? 46).map (·.size) = some cs.size)
    (h : wpList Tryz.prog ops Q rest (a.put dst (.agg cs)) w) : wpList Tryz.prog ops Q (Oper.mk dst (.load 46 (.tmp x)) ty pos after none :: rest) a w :=
  wpList_load_row rfl 46 (.tmp x) rfl g hx _ cs _ _ hg Tryz.underlying46 rfl hi h
theorem runLs_append {d : PlanD} : ∀ (a b : List (List RecD)) (s : StD), runLs d s (a ++ b) = (runLs d s a).bind fun x => runLs d x b
  | [], b, s => rfl
  | l :: a, b, s => by
    simp only [List.cons_append, runLs]
    cases runR d s l with
    | none => rfl
    | some y => exact runLs_append a b y
theorem ls_split {ls : List (List RecD)} {k : Nat} (hk : k < ls.length) : ls = ls.take k ++ listAt ls k :: ls.drop (k + 1) := by
  have h1 := List.take_append_drop k ls
  rw [List.drop_eq_getElem_cons hk] at h1
  have h2 : listAt ls k = ls[k] := by simp [listAt, List.getD, hk]
  rw [h2]
  exact h1.symm
theorem runLs_stop {d : PlanD} {s t : StD} {ls : List (List RecD)} {k : Nat} (hk : k < ls.length) (h : runLs d s (ls.take k) = some t) (hr : runR d t (listAt ls k) = none) : runLs d s ls = none := by
  rw [ls_split hk, runLs_append, h]
  simp [runLs, hr]
theorem runLs_next {d : PlanD} {s t x : StD} {ls : List (List RecD)} {k : Nat} (hk : k < ls.length) (h : runLs d s (ls.take k) = some t) (hr : runR d t (listAt ls k) = some x) : runLs d s (ls.take (k + 1)) = some x := by
  have e : ls.take (k + 1) = ls.take k ++ [listAt ls k] := by
    rw [List.take_add_one]
    congr 1
    simp [listAt, List.getD, hk]
  rw [e, runLs_append, h]
  simp [runLs, hr]
def replayD (d : PlanD) (ls : List (List RecD)) : StD × Bool := match runLs d (newS d) ls with | some x => (x, true) | none => (zeroS, false)

set_option maxRecDepth 100000 in
set_option maxHeartbeats 8000000 in
theorem l15Replay_any (pv lv : Value) (d : PlanD) (ls : List (List RecD)) (w : World) (hp : IsPlan w w.heap.size pv d) (hl : St w w.heap.size lv ls) (hok : planOkB d = true) :
    Calls Tryz.prog 28 #[pv, lv] w (MadeSB w (replayD d ls)) := by
  have HP := Lib.hid hp
  have HL := Lib.hid hl
  have HOK := Lib.hid (newS_ok hok)
  have HI : Hid ((Tryz.prog.info? 46).map (·.size) = some 12) := Lib.hid (by kernel_rfl)
  obtain ⟨⟨P0, P1, P2, P3, k0, k1, k2, k3, rfl, -, -, -, -⟩, -, -, -, -⟩ := hp
  obtain ⟨⟨LA, lc, rfl, -⟩, hll⟩ := hl
  unfold maxLen at hll
  obtain ⟨ans, hans⟩ : ∃ ans, replayD d ls = ans := ⟨_, rfl⟩
  rw [hans]
  have HANS := Lib.hid hans
  clear hans hok
  have XP := (Own.box w (planC P0 P1 P2 P3 d.n0 k0 d.n1 k1 d.n2 k2 d.n3 k3 d.l d.p d.t) 42).alloc (.cells (stC none none none none 0 0 0 0 0 0 0 0 0 false 0 0 0 0 0 0) 46)
  have HZ := heap_alloc_new (w.alloc (.cells (planC P0 P1 P2 P3 d.n0 k0 d.n1 k1 d.n2 k2 d.n3 k3 d.l d.p d.t) 42)) (.cells (stC none none none none 0 0 0 0 0 0 0 0 0 false 0 0 0 0 0 0) 46)
  simp only [heap_size_alloc_] at HZ
  have K := XP.K
  go_enter Tryz.func28, Tryz.ntmps28
  have hC := XP.C
  go_wp2_with fail
  generalize (w.alloc (.cells (planC P0 P1 P2 P3 d.n0 k0 d.n1 k1 d.n2 k2 d.n3 k3 d.l d.p d.t) 42)).alloc (.cells (stC none none none none 0 0 0 0 0 0 0 0 0 false 0 0 0 0 0 0) 46) = w0 at XP HZ K hC ⊢
  refine (specNewState_any _ d w0 ((HP.out.below K (Nat.le_refl _)).more K.size)).mono ?_
  rintro e w1 ⟨vs, rfl, OT, hb⟩
  replace OT := OT.base K.size
  replace XP := XP.step hb
  replace HZ := (hb.block _ (Array.getElem?_eq_some_iff.1 HZ).1).trans HZ
  replace K := K.trans (hb.mono K.size)
  clear hb hC
  obtain ⟨s0, hs0⟩ : ∃ s, newS d = s := ⟨_, rfl⟩
  rw [hs0] at OT
  have HS0 := Lib.hid hs0
  clear hs0
  obtain ⟨y0, y1, y2, y3, rfl, -⟩ := OT.it
  obtain ⟨⟨B0, e0, rfl⟩, ⟨B1, e1, rfl⟩, ⟨B2, e2, rfl⟩, ⟨B3, e3, rfl⟩⟩ := OT.shapes
  have hz1 := (Array.getElem?_eq_some_iff.1 HZ).1
  have HB := heap_alloc_new w1 (.cells (stC none none none none 0 0 0 0 0 0 0 0 0 false 0 0 0 0 0 0) 46)
  have hb : Below w1.heap.size w1 (w1.alloc (.cells (stC none none none none 0 0 0 0 0 0 0 0 0 false 0 0 0 0 0 0) 46)) := (Below.refl _ _).alloc (Nat.le_refl _) _
  replace XP := XP.step hb
  replace HZ := (hb.block _ (Array.getElem?_eq_some_iff.1 HZ).1).trans HZ
  replace K := K.trans (hb.mono K.size)
  replace OT := OT.below hb
  clear hb
  go_upto_region 2 with (
    (with_reducible refine store_state (x := 6) (y := 11) (g := w1.heap.size) (cs := stC B0 B1 B2 B3 s0.pods.length e0 s0.mnts.length e1 s0.devs.length e2 s0.lks.length e3 s0.ph s0.co s0.ck s0.bo s0.ba s0.lb s0.gd s0.pr) ?_ ?_ HB ?_ ?_ ?_ ?_)
    · rfl
    · rfl
    · exact HI.out
    · rfl
    · simp [Value.oneCell'])
  have kk := keepsRow_ (w1.alloc (.cells (stC none none none none 0 0 0 0 0 0 0 0 0 false 0 0 0 0 0 0) 46)) w1.heap.size (stC B0 B1 B2 B3 s0.pods.length e0 s0.mnts.length e1 s0.devs.length e2 s0.lks.length e3 s0.ph s0.co s0.ck s0.bo s0.ba s0.lb s0.gd s0.pr)
  replace XP := XP.keeps kk (by rintro b rfl; omega) (by show ¬ w.heap.size = w1.heap.size; omega)
  replace HZ := (setRow_other (w1.alloc (.cells (stC none none none none 0 0 0 0 0 0 0 0 0 false 0 0 0 0 0 0) 46)) w1.heap.size _ (stC B0 B1 B2 B3 s0.pods.length e0 s0.mnts.length e1 s0.devs.length e2 s0.lks.length e3 s0.ph s0.co s0.ck s0.bo s0.ba s0.lb s0.gd s0.pr) (by omega)).trans HZ
  replace OT := OT.keepsT kk HB (by decide)
  replace K := belowRow_ K (B := w1.heap.size) (by omega) (stC B0 B1 B2 B3 s0.pods.length e0 s0.mnts.length e1 s0.devs.length e2 s0.lks.length e3 s0.ph s0.co s0.ck s0.bo s0.ba s0.lb s0.gd s0.pr)
  replace HB := setRow_heap _ _ _ (stC B0 B1 B2 B3 s0.pods.length e0 s0.mnts.length e1 s0.devs.length e2 s0.lks.length e3 s0.ph s0.co s0.ck s0.bo s0.ba s0.lb s0.gd s0.pr) _ _ HB
  clear kk
  generalize (w1.alloc (.cells (stC none none none none 0 0 0 0 0 0 0 0 0 false 0 0 0 0 0 0) 46)).setRow w1.heap.size (stC B0 B1 B2 B3 s0.pods.length e0 s0.mnts.length e1 s0.devs.length e2 s0.lks.length e3 s0.ph s0.co s0.ck s0.bo s0.ba s0.lb s0.gd s0.pr) = w2 at XP HZ OT K HB ⊢
  generalize w1.heap.size = g at HB hz1 ⊢
  go_wp2_with fail
  go_loopw [7] (fun i wr => ∃ (k : Nat) (t : StD) (C0 C1 C2 C3 : Option Addr) (f0 f1 f2 f3 : Nat), k ≤ ls.length ∧ i = .int .i64 k ∧ runLs d s0 (ls.take k) = some t ∧ StOk d t ∧ Below w.heap.size w wr ∧ Own w wr w.heap.size (planC P0 P1 P2 P3 d.n0 k0 d.n1 k1 d.n2 k2 d.n3 k3 d.l d.p d.t) ∧ wr.heap[w.heap.size + 1]? = some (.cells (stC none none none none 0 0 0 0 0 0 0 0 0 false 0 0 0 0 0 0) 46) ∧ wr.heap[g]? = some (.cells (stC C0 C1 C2 C3 t.pods.length f0 t.mnts.length f1 t.devs.length f2 t.lks.length f3 t.ph t.co t.ck t.bo t.ba t.lb t.gd t.pr) 46) ∧ OwnSt wr w.heap.size (.agg (stC C0 C1 C2 C3 t.pods.length f0 t.mnts.length f1 t.devs.length f2 t.lks.length f3 t.ph t.co t.ck t.bo t.ba t.lb t.gd t.pr)) t) (fun i _ => ls.length - (intOf i).toNat)
  case atStart => exact ⟨0, s0, B0, B1, B2, B3, e0, e1, e2, e3, Nat.zero_le _, rfl, rfl, by rw [← HS0.out]; exact HOK.out, K, XP, HZ, HB, OT⟩
  case round =>
    clear K XP HZ HB OT
    obtain ⟨k, t, C0, C1, C2, C3, f0, f1, f2, f3, hk, rfl, hrun, ht, K, XP, HZ, HB, OT⟩ := hrel
    have HRUN := Lib.hid hrun
    have HT := Lib.hid ht
    clear hrun ht
    by_cases hlt : k < ls.length
    · obtain ⟨⟨LA', lc', hv, hcells⟩, -⟩ := HL.out
      injection hv with hv1 hv2 hv3
      subst hv1 hv3
      obtain ⟨bl, off, rfl, hql, hcell⟩ := hcells (by omega)
      obtain ⟨u, hu, hrt⟩ := hcell k hlt
      have HRT := Lib.hid hrt
      obtain ⟨⟨AL, cl, rfl, -⟩, -⟩ := hrt
      have q0 := (K.cell (p := ⟨bl, off + k, none⟩) hql).trans hu
      clear hcell hu hcells hv2
      obtain ⟨x, xb, hxb⟩ : ∃ x b, allS d t (listAt ls k) = (x, b) := by
        generalize allS d t (listAt ls k) = q
        exact ⟨q.1, q.2, rfl⟩
      have HNO : Hid (xb = false → ans = (zeroS, false)) := Lib.hid fun e => by
        subst e
        cases hr : runR d t (listAt ls k) with
        | none =>
          rw [← HANS.out]
          unfold replayD
          rw [HS0.out, runLs_stop hlt HRUN.out hr]
        | some y =>
          rw [allS_some hr] at hxb
          injection hxb with _ h2
          cases h2
      have HYES : Hid (xb = true → runLs d s0 (ls.take (k + 1)) = some x ∧ StOk d x) := Lib.hid fun e => by
        subst e
        cases hr : runR d t (listAt ls k) with
        | none =>
          rw [allS_none hr] at hxb
          injection hxb with _ h2
          cases h2
        | some y =>
          rw [allS_some hr] at hxb
          injection hxb with h1 _
          subst h1
          exact ⟨runLs_next hlt HRUN.out hr, runR_ok HT.out hr⟩
      go_upto_region 5 with fail
      refine wp_region_noPanic ?_
      refine wp_region_held_drew (S := fun W => (∀ o, W.cell? ⟨w.heap.size, o, none⟩ = (planC P0 P1 P2 P3 d.n0 k0 d.n1 k1 d.n2 k2 d.n3 k3 d.l d.p d.t)[o]?) ∧ (∀ o, W.cell? ⟨g, o, none⟩ = (stC C0 C1 C2 C3 t.pods.length f0 t.mnts.length f1 t.devs.length f2 t.lks.length f3 t.ph t.co t.ck t.bo t.ba t.lb t.gd t.pr)[o]?) ∧ W.cell? ⟨bl, off + k, none⟩ = some (.slice AL (listAt ls k).length cl)) (by kernel_rfl) ⟨XP.drew.C, fun o => cell_of_row _ _ o _ _ _ HB, q0⟩ (fun _ => ?_)
      replace q0 : wr.drew.cell? ⟨bl, off + k, none⟩ = some (.slice AL (listAt ls k).length cl) := q0
      rw [← heap_drew wr] at HZ HB
      replace XP := XP.drew
      replace OT := OT.below (Below.refl _ _).drew
      replace K := K.drew
      generalize wr.drew = v0 at XP HZ HB q0 OT K ⊢
      refine wpAnyH_take (i := 2) (v := ?_) rfl (by kernel_rfl) (by kernel_rfl) (by kernel_rfl) (fun _ _ _ h => h) (Or.inl ⟨by rfl, ?_⟩) ⟨XP.C, fun o => cell_of_row _ _ o _ _ _ HB, q0⟩ ?_
      rotate_left 1
      · intro w hSw
        obtain ⟨hs1, hs2, hs3⟩ := hSw
        go_simp
        try with_reducible rfl
      change wpAnyH _ _ _ _ _ _ _ (Act.put _ (some 21) _) _
      dsimp only [Act.put]
      refine wpAnyH_take (i := 3) (v := ?_) rfl (by kernel_rfl) (by kernel_rfl) (by kernel_rfl) (fun _ _ _ h => h) (Or.inl ⟨by rfl, ?_⟩) ⟨XP.C, fun o => cell_of_row _ _ o _ _ _ HB, q0⟩ ?_
      rotate_left 1
      · intro w hSw
        obtain ⟨hs1, hs2, hs3⟩ := hSw
        go_simp
        try with_reducible rfl
      change wpAnyH _ _ _ _ _ _ _ (Act.put _ (some 22) _) _
      dsimp only [Act.put]
      refine wpAnyH_take (i := 4) (v := ?_) rfl (by kernel_rfl) (by kernel_rfl) (by kernel_rfl) (fun _ _ _ h => h) (Or.inl ⟨by rfl, ?_⟩) ⟨XP.C, fun o => cell_of_row _ _ o _ _ _ HB, q0⟩ ?_
      rotate_left 1
      · intro w hSw
        obtain ⟨hs1, hs2, hs3⟩ := hSw
        go_simp
        try with_reducible rfl
      change wpAnyH _ _ _ _ _ _ _ (Act.put _ (some 23) _) _
      dsimp only [Act.put]
      refine wpAnyH_take (i := 5) (v := ?_) rfl (by kernel_rfl) (by kernel_rfl) (by kernel_rfl) (fun _ _ _ h => h) (Or.inl ⟨by rfl, ?_⟩) ⟨XP.C, fun o => cell_of_row _ _ o _ _ _ HB, q0⟩ ?_
      rotate_left 1
      · intro w hSw
        obtain ⟨hs1, hs2, hs3⟩ := hSw
        go_simp
        try with_reducible rfl
      change wpAnyH _ _ _ _ _ _ _ (Act.put _ (some 24) _) _
      dsimp only [Act.put]
      refine wpAnyH_take (i := 0) (v := ?_) rfl (by kernel_rfl) (by kernel_rfl) (by kernel_rfl) (fun _ _ _ h => h) (Or.inl ⟨by rfl, ?_⟩) ⟨XP.C, fun o => cell_of_row _ _ o _ _ _ HB, q0⟩ ?_
      rotate_left 1
      · intro w hSw
        obtain ⟨hs1, hs2, hs3⟩ := hSw
        go_simp
        try with_reducible rfl
      change wpAnyH _ _ _ _ _ _ _ (Act.put _ (some 19) _) _
      dsimp only [Act.put]
      refine wpAnyH_take (i := 1) (v := ?_) rfl (by kernel_rfl) (by kernel_rfl) (by kernel_rfl) (fun _ _ _ h => h) (Or.inl ⟨by rfl, ?_⟩) ⟨XP.C, fun o => cell_of_row _ _ o _ _ _ HB, q0⟩ ?_
      rotate_left 1
      · intro w hSw
        obtain ⟨hs1, hs2, hs3⟩ := hSw
        go_simp
        try with_reducible rfl
      change wpAnyH _ _ _ _ _ _ _ (Act.put _ (some 20) _) _
      dsimp only [Act.put]
      refine wpAnyH_ready (rs := [6, 10]) (by kernel_rfl) (by simp) ?_
      refine AllReadyH.cons rfl (fun K' hK => ?_) ?_
      · skip
        go_simp
        go_at_call 69
        have hall := l6All_any _ _ (.slice AL (listAt ls k).length cl) d t (listAt ls k) v0 ((HP.out.below K (Nat.le_refl _)).more K.size) (OT.isR (fits_ok HT.out)) ((HRT.out.below K (Nat.le_refl _)).more K.size) HT.out
        rw [hxb] at hall
        refine hall.mono ?_
        clear hall
        rintro e v1 ⟨vx, rfl, OX, hb⟩
        replace OX := OX.base K.size
        obtain ⟨y0, y1, y2, y3, rfl, -⟩ := OX.it
        obtain ⟨⟨D0, m0, rfl⟩, ⟨D1, m1, rfl⟩, ⟨D2, m2, rfl⟩, ⟨D3, m3, rfl⟩⟩ := OX.shapes
        replace q0 := (hb.cell (p := ⟨bl, off + k, none⟩) (Nat.lt_of_lt_of_le hql K.size)).trans q0
        try replace H8 := (hb.block _ (Array.getElem?_eq_some_iff.1 H8).1).trans H8
        replace K := K.trans (hb.mono K.size)
        replace XP := XP.step hb
        replace HZ := (hb.block _ (Array.getElem?_eq_some_iff.1 HZ).1).trans HZ
        replace HB := (hb.block _ (Array.getElem?_eq_some_iff.1 HB).1).trans HB
        replace OT := OT.below hb
        clear hb
        go_wp2_with fail
        refine hK.out _ _ ⟨XP.C, fun o => cell_of_row _ _ o _ _ _ HB, q0⟩ (fun _ => ?_)
        clear hK K'
        try (change wpAnyH _ _ _ _ _ _ _ (Act.put _ (some 25) _) _; dsimp only [Act.put])
        refine wpAnyH_take (i := 7) (v := ?_) rfl (by kernel_rfl) (by kernel_rfl) (by kernel_rfl) (fun _ _ _ h => h) (Or.inl ⟨by rfl, ?_⟩) ⟨XP.C, fun o => cell_of_row _ _ o _ _ _ HB, q0⟩ ?_
        rotate_left 1
        · intro w hSw
          obtain ⟨hs1, hs2, hs3⟩ := hSw
          go_simp
          try with_reducible rfl
        change wpAnyH _ _ _ _ _ _ _ (Act.put _ (some 18) _) _
        dsimp only [Act.put]
        refine wpAnyH_take (i := 8) (v := ?_) rfl (by kernel_rfl) (by kernel_rfl) (by kernel_rfl) (fun _ _ _ h => h) (Or.inl ⟨by rfl, ?_⟩) ⟨XP.C, fun o => cell_of_row _ _ o _ _ _ HB, q0⟩ ?_
        rotate_left 1
        · intro w hSw
          obtain ⟨hs1, hs2, hs3⟩ := hSw
          go_simp
          try with_reducible rfl
        change wpAnyH _ _ _ _ _ _ _ (Act.put _ (some 26) _) _
        dsimp only [Act.put]
        refine wpAnyH_take (i := 9) (v := ?_) rfl (by kernel_rfl) (by kernel_rfl) (by kernel_rfl) (fun _ _ _ h => h) (Or.inl ⟨by rfl, ?_⟩) ⟨XP.C, fun o => cell_of_row _ _ o _ _ _ HB, q0⟩ ?_
        rotate_left 1
        · intro w hSw
          obtain ⟨hs1, hs2, hs3⟩ := hSw
          go_simp
          try with_reducible rfl
        change wpAnyH _ _ _ _ _ _ _ (Act.put _ (some 27) _) _
        dsimp only [Act.put]
        refine wpAnyH_ready (rs := [10]) (by kernel_rfl) (by simp) ?_
        refine AllReadyH.cons rfl (fun K' hK => ?_) AllReadyH.nil
        go_simp
        have H8 := heap_alloc_new v1 (.cells (stC none none none none 0 0 0 0 0 0 0 0 0 false 0 0 0 0 0 0) 46)
        have hb := (Below.refl v1.heap.size v1).alloc (Nat.le_refl _) (.cells (stC none none none none 0 0 0 0 0 0 0 0 0 false 0 0 0 0 0 0) 46)
        have h8g : g < v1.heap.size := (Array.getElem?_eq_some_iff.1 HB).1
        replace q0 := (hb.cell (p := ⟨bl, off + k, none⟩) (Nat.lt_of_lt_of_le hql K.size)).trans q0
        try replace OX := OX.below hb
        replace K := K.trans (hb.mono K.size)
        replace XP := XP.step hb
        replace HZ := (hb.block _ (Array.getElem?_eq_some_iff.1 HZ).1).trans HZ
        replace HB := (hb.block _ (Array.getElem?_eq_some_iff.1 HB).1).trans HB
        replace OT := OT.below hb
        clear hb
        obtain ⟨v2, hwv⟩ : ∃ W, v1.alloc (.cells (stC none none none none 0 0 0 0 0 0 0 0 0 false 0 0 0 0 0 0) 46) = W := ⟨_, rfl⟩
        rw [hwv] at H8 q0 K XP HZ HB OT ⊢
        try rw [hwv] at OX
        clear hwv
        obtain ⟨R8, hR8⟩ : ∃ R, v1.heap.size = R := ⟨_, rfl⟩
        rw [hR8] at H8 h8g ⊢
        clear hR8
        refine hK.out _ _ ⟨XP.C, fun o => cell_of_row _ _ o _ _ _ HB, q0⟩ (fun _ => ?_)
        clear hK K'
        try (change wpAnyH _ _ _ _ _ _ _ (Act.put _ (some 8) _) _; dsimp only [Act.put])
        refine wpAnyH_ready (rs := [11]) (by kernel_rfl) (by simp) ?_
        refine AllReadyH.cons rfl (fun K' hK => ?_) AllReadyH.nil
        rw [if_pos (by rfl)]
        refine wp_store_row 46 (.tmp 8) (.tmp 26) rfl R8 (stC D0 D1 D2 D3 x.pods.length m0 x.mnts.length m1 x.devs.length m2 x.lks.length m3 x.ph x.co x.ck x.bo x.ba x.lb x.gd x.pr) rfl rfl 46 _ H8 HI.out rfl (by simp [Value.oneCell']) ?_
        have hR0 : w.heap.size < R8 := by omega
        replace q0 := ((keepsRow_ v2 R8 (stC D0 D1 D2 D3 x.pods.length m0 x.mnts.length m1 x.devs.length m2 x.lks.length m3 x.ph x.co x.ck x.bo x.ba x.lb x.gd x.pr)).cell (p := ⟨bl, off + k, none⟩) (Nat.lt_of_lt_of_le hql K.size) (by show ¬ bl = R8; omega)).trans q0
        have kk := keepsRow_ v2 (R8) (stC D0 D1 D2 D3 x.pods.length m0 x.mnts.length m1 x.devs.length m2 x.lks.length m3 x.ph x.co x.ck x.bo x.ba x.lb x.gd x.pr)
        replace K := belowRow_ K (B := R8) (by omega) (stC D0 D1 D2 D3 x.pods.length m0 x.mnts.length m1 x.devs.length m2 x.lks.length m3 x.ph x.co x.ck x.bo x.ba x.lb x.gd x.pr)
        replace XP := XP.keeps kk (by rintro b rfl; omega) (by show ¬ w.heap.size = R8; omega)
        replace HZ := (setRow_other _ (R8) (w.heap.size + 1) (stC D0 D1 D2 D3 x.pods.length m0 x.mnts.length m1 x.devs.length m2 x.lks.length m3 x.ph x.co x.ck x.bo x.ba x.lb x.gd x.pr) (by omega)).trans HZ
        replace HB := (setRow_other _ (R8) (g) (stC D0 D1 D2 D3 x.pods.length m0 x.mnts.length m1 x.devs.length m2 x.lks.length m3 x.ph x.co x.ck x.bo x.ba x.lb x.gd x.pr) (by omega)).trans HB
        replace OT := OT.keepsT kk H8 (by decide)
        replace OX := OX.keepsT kk H8 (by decide)
        replace H8 := setRow_heap _ _ _ (stC D0 D1 D2 D3 x.pods.length m0 x.mnts.length m1 x.devs.length m2 x.lks.length m3 x.ph x.co x.ck x.bo x.ba x.lb x.gd x.pr) _ _ H8
        clear kk
        generalize v2.setRow R8 (stC D0 D1 D2 D3 x.pods.length m0 x.mnts.length m1 x.devs.length m2 x.lks.length m3 x.ph x.co x.ck x.bo x.ba x.lb x.gd x.pr) = v3 at q0 H8 OX K XP HZ HB OT ⊢
        refine hK.out _ _ ⟨XP.C, fun o => cell_of_row _ _ o _ _ _ HB, q0⟩ (fun _ => ?_)
        clear hK K'
        try (change wpAnyH _ _ _ _ _ _ _ (Act.put _ none _) _; dsimp only [Act.put])
        refine wpAnyH_ready (rs := [12]) (by kernel_rfl) (by simp) ?_
        refine AllReadyH.cons rfl (fun K' hK => ?_) AllReadyH.nil
        go_simp
        refine hK.out _ _ ⟨XP.C, fun o => cell_of_row _ _ o _ _ _ HB, q0⟩ (fun _ => ?_)
        clear hK K'
        try (change wpAnyH _ _ _ _ _ _ _ (Act.put _ (some 9) _) _; dsimp only [Act.put])
        refine wpAnyH_done (by kernel_rfl) ?_ _
        refine NoPanic.normal ?_
        cases xb
        · go_wp2_with (
            (with_reducible refine store_state (x := 4) (y := 30) (g := w.heap.size + 1) (cs := stC none none none none 0 0 0 0 0 0 0 0 0 false 0 0 0 0 0 0) ?_ ?_ HZ ?_ ?_ ?_ ?_)
            · rfl
            · rfl
            · exact HI.out
            · rfl
            · simp [Value.oneCell'])
          rw [show ans = (zeroS, false) from by first | exact HNO.out rfl | exact HNO.out trivial]
          exact bodyPost_ret (v := .tuple #[.agg (stC none none none none 0 0 0 0 0 0 0 0 0 false 0 0 0 0 0 0), .bool false]) (results_two_row Tryz.results28 _ _ _ _ _ _ _ _ rfl rfl (setRow_heap _ _ _ _ _ _ HZ) Tryz.underlying46 rfl HI.out) rfl ⟨_, rfl, OwnSt.zero _ _, belowRow_ K (by omega) _⟩
        · go_wp2_with (first
            | ((with_reducible refine store_state (x := 6) (y := 31) (g := g) (cs := stC D0 D1 D2 D3 x.pods.length m0 x.mnts.length m1 x.devs.length m2 x.lks.length m3 x.ph x.co x.ck x.bo x.ba x.lb x.gd x.pr) ?_ ?_ HB ?_ ?_ ?_ ?_)
               · rfl
               · rfl
               · exact HI.out
               · rfl
               · simp [Value.oneCell'])
            | ((with_reducible refine load_state (x := 8) (g := R8) (cs := stC D0 D1 D2 D3 x.pods.length m0 x.mnts.length m1 x.devs.length m2 x.lks.length m3 x.ph x.co x.ck x.bo x.ba x.lb x.gd x.pr) ?_ H8 ?_ ?_)
               · rfl
               · exact HI.out))
          obtain ⟨hy1, hy2⟩ : runLs d s0 (ls.take (k + 1)) = some x ∧ StOk d x := by first | exact HYES.out rfl | exact HYES.out trivial
          have kk := keepsRow_ v3 g (stC D0 D1 D2 D3 x.pods.length m0 x.mnts.length m1 x.devs.length m2 x.lks.length m3 x.ph x.co x.ck x.bo x.ba x.lb x.gd x.pr)
          exact ⟨⟨k + 1, x, D0, D1, D2, D3, m0, m1, m2, m3, by omega, by go_num, hy1, hy2, belowRow_ K (by omega) _, XP.keeps kk (by rintro b rfl; omega) (by show ¬ w.heap.size = g; omega), (setRow_other _ _ _ _ (by omega)).trans HZ, setRow_heap _ _ _ _ _ _ HB, OX.keepsT kk HB (by decide)⟩, by simp [intOf]; omega⟩
      refine AllReadyH.cons rfl (fun K' hK => ?_) AllReadyH.nil
      go_simp
      have H8 := heap_alloc_new v0 (.cells (stC none none none none 0 0 0 0 0 0 0 0 0 false 0 0 0 0 0 0) 46)
      have hb := (Below.refl v0.heap.size v0).alloc (Nat.le_refl _) (.cells (stC none none none none 0 0 0 0 0 0 0 0 0 false 0 0 0 0 0 0) 46)
      have h8g : g < v0.heap.size := (Array.getElem?_eq_some_iff.1 HB).1
      replace q0 := (hb.cell (p := ⟨bl, off + k, none⟩) (Nat.lt_of_lt_of_le hql K.size)).trans q0
      try replace OX := OX.below hb
      replace K := K.trans (hb.mono K.size)
      replace XP := XP.step hb
      replace HZ := (hb.block _ (Array.getElem?_eq_some_iff.1 HZ).1).trans HZ
      replace HB := (hb.block _ (Array.getElem?_eq_some_iff.1 HB).1).trans HB
      replace OT := OT.below hb
      clear hb
      obtain ⟨v1, hwv⟩ : ∃ W, v0.alloc (.cells (stC none none none none 0 0 0 0 0 0 0 0 0 false 0 0 0 0 0 0) 46) = W := ⟨_, rfl⟩
      rw [hwv] at H8 q0 K XP HZ HB OT ⊢
      try rw [hwv] at OX
      clear hwv
      obtain ⟨R8, hR8⟩ : ∃ R, v0.heap.size = R := ⟨_, rfl⟩
      rw [hR8] at H8 h8g ⊢
      clear hR8
      refine hK.out _ _ ⟨XP.C, fun o => cell_of_row _ _ o _ _ _ HB, q0⟩ (fun _ => ?_)
      clear hK K'
      try (change wpAnyH _ _ _ _ _ _ _ (Act.put _ (some 8) _) _; dsimp only [Act.put])
      refine wpAnyH_ready (rs := [6]) (by kernel_rfl) (by simp) ?_
      refine AllReadyH.cons rfl (fun K' hK => ?_) AllReadyH.nil
      go_simp
      go_at_call 69
      have hall := l6All_any _ _ (.slice AL (listAt ls k).length cl) d t (listAt ls k) v1 ((HP.out.below K (Nat.le_refl _)).more K.size) (OT.isR (fits_ok HT.out)) ((HRT.out.below K (Nat.le_refl _)).more K.size) HT.out
      rw [hxb] at hall
      refine hall.mono ?_
      clear hall
      rintro e v2 ⟨vx, rfl, OX, hb⟩
      replace OX := OX.base K.size
      obtain ⟨y0, y1, y2, y3, rfl, -⟩ := OX.it
      obtain ⟨⟨D0, m0, rfl⟩, ⟨D1, m1, rfl⟩, ⟨D2, m2, rfl⟩, ⟨D3, m3, rfl⟩⟩ := OX.shapes
      replace q0 := (hb.cell (p := ⟨bl, off + k, none⟩) (Nat.lt_of_lt_of_le hql K.size)).trans q0
      try replace H8 := (hb.block _ (Array.getElem?_eq_some_iff.1 H8).1).trans H8
      replace K := K.trans (hb.mono K.size)
      replace XP := XP.step hb
      replace HZ := (hb.block _ (Array.getElem?_eq_some_iff.1 HZ).1).trans HZ
      replace HB := (hb.block _ (Array.getElem?_eq_some_iff.1 HB).1).trans HB
      replace OT := OT.below hb
      clear hb
      go_wp2_with fail
      refine hK.out _ _ ⟨XP.C, fun o => cell_of_row _ _ o _ _ _ HB, q0⟩ (fun _ => ?_)
      clear hK K'
      try (change wpAnyH _ _ _ _ _ _ _ (Act.put _ (some 25) _) _; dsimp only [Act.put])
      refine wpAnyH_take (i := 7) (v := ?_) rfl (by kernel_rfl) (by kernel_rfl) (by kernel_rfl) (fun _ _ _ h => h) (Or.inl ⟨by rfl, ?_⟩) ⟨XP.C, fun o => cell_of_row _ _ o _ _ _ HB, q0⟩ ?_
      rotate_left 1
      · intro w hSw
        obtain ⟨hs1, hs2, hs3⟩ := hSw
        go_simp
        try with_reducible rfl
      change wpAnyH _ _ _ _ _ _ _ (Act.put _ (some 18) _) _
      dsimp only [Act.put]
      refine wpAnyH_take (i := 8) (v := ?_) rfl (by kernel_rfl) (by kernel_rfl) (by kernel_rfl) (fun _ _ _ h => h) (Or.inl ⟨by rfl, ?_⟩) ⟨XP.C, fun o => cell_of_row _ _ o _ _ _ HB, q0⟩ ?_
      rotate_left 1
      · intro w hSw
        obtain ⟨hs1, hs2, hs3⟩ := hSw
        go_simp
        try with_reducible rfl
      change wpAnyH _ _ _ _ _ _ _ (Act.put _ (some 26) _) _
      dsimp only [Act.put]
      refine wpAnyH_take (i := 9) (v := ?_) rfl (by kernel_rfl) (by kernel_rfl) (by kernel_rfl) (fun _ _ _ h => h) (Or.inl ⟨by rfl, ?_⟩) ⟨XP.C, fun o => cell_of_row _ _ o _ _ _ HB, q0⟩ ?_
      rotate_left 1
      · intro w hSw
        obtain ⟨hs1, hs2, hs3⟩ := hSw
        go_simp
        try with_reducible rfl
      change wpAnyH _ _ _ _ _ _ _ (Act.put _ (some 27) _) _
      dsimp only [Act.put]
      refine wpAnyH_ready (rs := [11]) (by kernel_rfl) (by simp) ?_
      refine AllReadyH.cons rfl (fun K' hK => ?_) AllReadyH.nil
      rw [if_pos (by rfl)]
      refine wp_store_row 46 (.tmp 8) (.tmp 26) rfl R8 (stC D0 D1 D2 D3 x.pods.length m0 x.mnts.length m1 x.devs.length m2 x.lks.length m3 x.ph x.co x.ck x.bo x.ba x.lb x.gd x.pr) rfl rfl 46 _ H8 HI.out rfl (by simp [Value.oneCell']) ?_
      have hR0 : w.heap.size < R8 := by omega
      replace q0 := ((keepsRow_ v2 R8 (stC D0 D1 D2 D3 x.pods.length m0 x.mnts.length m1 x.devs.length m2 x.lks.length m3 x.ph x.co x.ck x.bo x.ba x.lb x.gd x.pr)).cell (p := ⟨bl, off + k, none⟩) (Nat.lt_of_lt_of_le hql K.size) (by show ¬ bl = R8; omega)).trans q0
      have kk := keepsRow_ v2 (R8) (stC D0 D1 D2 D3 x.pods.length m0 x.mnts.length m1 x.devs.length m2 x.lks.length m3 x.ph x.co x.ck x.bo x.ba x.lb x.gd x.pr)
      replace K := belowRow_ K (B := R8) (by omega) (stC D0 D1 D2 D3 x.pods.length m0 x.mnts.length m1 x.devs.length m2 x.lks.length m3 x.ph x.co x.ck x.bo x.ba x.lb x.gd x.pr)
      replace XP := XP.keeps kk (by rintro b rfl; omega) (by show ¬ w.heap.size = R8; omega)
      replace HZ := (setRow_other _ (R8) (w.heap.size + 1) (stC D0 D1 D2 D3 x.pods.length m0 x.mnts.length m1 x.devs.length m2 x.lks.length m3 x.ph x.co x.ck x.bo x.ba x.lb x.gd x.pr) (by omega)).trans HZ
      replace HB := (setRow_other _ (R8) (g) (stC D0 D1 D2 D3 x.pods.length m0 x.mnts.length m1 x.devs.length m2 x.lks.length m3 x.ph x.co x.ck x.bo x.ba x.lb x.gd x.pr) (by omega)).trans HB
      replace OT := OT.keepsT kk H8 (by decide)
      replace OX := OX.keepsT kk H8 (by decide)
      replace H8 := setRow_heap _ _ _ (stC D0 D1 D2 D3 x.pods.length m0 x.mnts.length m1 x.devs.length m2 x.lks.length m3 x.ph x.co x.ck x.bo x.ba x.lb x.gd x.pr) _ _ H8
      clear kk
      generalize v2.setRow R8 (stC D0 D1 D2 D3 x.pods.length m0 x.mnts.length m1 x.devs.length m2 x.lks.length m3 x.ph x.co x.ck x.bo x.ba x.lb x.gd x.pr) = v3 at q0 H8 OX K XP HZ HB OT ⊢
      refine hK.out _ _ ⟨XP.C, fun o => cell_of_row _ _ o _ _ _ HB, q0⟩ (fun _ => ?_)
      clear hK K'
      try (change wpAnyH _ _ _ _ _ _ _ (Act.put _ none _) _; dsimp only [Act.put])
      refine wpAnyH_ready (rs := [12]) (by kernel_rfl) (by simp) ?_
      refine AllReadyH.cons rfl (fun K' hK => ?_) AllReadyH.nil
      go_simp
      refine hK.out _ _ ⟨XP.C, fun o => cell_of_row _ _ o _ _ _ HB, q0⟩ (fun _ => ?_)
      clear hK K'
      try (change wpAnyH _ _ _ _ _ _ _ (Act.put _ (some 9) _) _; dsimp only [Act.put])
      refine wpAnyH_done (by kernel_rfl) ?_ _
      refine NoPanic.normal ?_
      cases xb
      · go_wp2_with (
          (with_reducible refine store_state (x := 4) (y := 30) (g := w.heap.size + 1) (cs := stC none none none none 0 0 0 0 0 0 0 0 0 false 0 0 0 0 0 0) ?_ ?_ HZ ?_ ?_ ?_ ?_)
          · rfl
          · rfl
          · exact HI.out
          · rfl
          · simp [Value.oneCell'])
        rw [show ans = (zeroS, false) from by first | exact HNO.out rfl | exact HNO.out trivial]
        exact bodyPost_ret (v := .tuple #[.agg (stC none none none none 0 0 0 0 0 0 0 0 0 false 0 0 0 0 0 0), .bool false]) (results_two_row Tryz.results28 _ _ _ _ _ _ _ _ rfl rfl (setRow_heap _ _ _ _ _ _ HZ) Tryz.underlying46 rfl HI.out) rfl ⟨_, rfl, OwnSt.zero _ _, belowRow_ K (by omega) _⟩
      · go_wp2_with (first
          | ((with_reducible refine store_state (x := 6) (y := 31) (g := g) (cs := stC D0 D1 D2 D3 x.pods.length m0 x.mnts.length m1 x.devs.length m2 x.lks.length m3 x.ph x.co x.ck x.bo x.ba x.lb x.gd x.pr) ?_ ?_ HB ?_ ?_ ?_ ?_)
             · rfl
             · rfl
             · exact HI.out
             · rfl
             · simp [Value.oneCell'])
          | ((with_reducible refine load_state (x := 8) (g := R8) (cs := stC D0 D1 D2 D3 x.pods.length m0 x.mnts.length m1 x.devs.length m2 x.lks.length m3 x.ph x.co x.ck x.bo x.ba x.lb x.gd x.pr) ?_ H8 ?_ ?_)
             · rfl
             · exact HI.out))
        obtain ⟨hy1, hy2⟩ : runLs d s0 (ls.take (k + 1)) = some x ∧ StOk d x := by first | exact HYES.out rfl | exact HYES.out trivial
        have kk := keepsRow_ v3 g (stC D0 D1 D2 D3 x.pods.length m0 x.mnts.length m1 x.devs.length m2 x.lks.length m3 x.ph x.co x.ck x.bo x.ba x.lb x.gd x.pr)
        exact ⟨⟨k + 1, x, D0, D1, D2, D3, m0, m1, m2, m3, by omega, by go_num, hy1, hy2, belowRow_ K (by omega) _, XP.keeps kk (by rintro b rfl; omega) (by show ¬ w.heap.size = g; omega), (setRow_other _ _ _ _ (by omega)).trans HZ, setRow_heap _ _ _ _ _ _ HB, OX.keepsT kk HB (by decide)⟩, by simp [intOf]; omega⟩
    · have hkl : ls.length = k := by omega
      have hsome : ans = (t, true) := by
        rw [← HANS.out]
        unfold replayD
        have := HRUN.out
        rw [← hkl, List.take_length] at this
        rw [HS0.out, this]
      go_wp2_with (first
        | ((with_reducible refine store_state (x := 4) (y := 32) (g := w.heap.size + 1) (cs := stC C0 C1 C2 C3 t.pods.length f0 t.mnts.length f1 t.devs.length f2 t.lks.length f3 t.ph t.co t.ck t.bo t.ba t.lb t.gd t.pr) ?_ ?_ HZ ?_ ?_ ?_ ?_)
           · rfl
           · rfl
           · exact HI.out
           · rfl
           · simp [Value.oneCell'])
        | ((with_reducible refine load_state (x := 6) (g := g) (cs := stC C0 C1 C2 C3 t.pods.length f0 t.mnts.length f1 t.devs.length f2 t.lks.length f3 t.ph t.co t.ck t.bo t.ba t.lb t.gd t.pr) ?_ HB ?_ ?_)
           · rfl
           · exact HI.out))
      rw [hsome]
      have kk := keepsRow_ wr (w.heap.size + 1) (stC C0 C1 C2 C3 t.pods.length f0 t.mnts.length f1 t.devs.length f2 t.lks.length f3 t.ph t.co t.ck t.bo t.ba t.lb t.gd t.pr)
      exact bodyPost_ret (v := .tuple #[.agg (stC C0 C1 C2 C3 t.pods.length f0 t.mnts.length f1 t.devs.length f2 t.lks.length f3 t.ph t.co t.ck t.bo t.ba t.lb t.gd t.pr), .bool true]) (results_two_row Tryz.results28 _ _ _ _ _ _ _ _ rfl rfl (setRow_heap _ _ _ _ _ _ HZ) Tryz.underlying46 rfl HI.out) rfl ⟨_, rfl, OT.keepsT kk HZ (by decide), belowRow_ K (by omega) _⟩
end Go.Proofs.YtkefbmbjkijilaaGreatDoor
/- Nb -/
set_option linter.unusedVariables false
namespace Go.Proofs.YtkefbmbjkijilaaGreatDoor
open Go.RowKit

end Go.Proofs.YtkefbmbjkijilaaGreatDoor
/- Nf -/
set_option linter.unusedVariables false
namespace Go.Proofs.YtkefbmbjkijilaaGreatDoor
open Go.RowKit

/-- An agent is right: its plan is, its store is whole frames, at most 1200 bytes, and makes its state of a new one. -/
def agB (d : PlanD) (s : StD) (st : List Nat) : Bool := planOkB d && decide (st.length ≤ 1200) && decide ((framesN st).2 = st.length) && decide (replayD d (framesN st).1 = (s, true))
set_option maxRecDepth 100000 in
set_option maxHeartbeats 8000000 in
theorem specAgentOkX_any (v : Value) (d : PlanD) (s : StD) (st : List Nat) (w : World) (h : IsAg w w.heap.size v d s st) (hst : st.length ≤ 1048576) :
    Calls Tryz.prog 7 #[v] w fun e w' => e = .returned (.bool (agB d s st)) ∧ Below w.heap.size w w' := by
  obtain ⟨p0, p1, p2, p3, s0, s1, s2, s3, b, rfl, hp, hs, hb, hre⟩ := h.it
  obtain ⟨Ab, cb, rfl, hcap⟩ : ∃ A c, b = .slice A st.length c ∧ st.length ≤ c := by
    obtain ⟨⟨A, c, e, hc, -⟩, -, -⟩ := hb
    exact ⟨A, c, e, hc⟩
  have HP := Lib.hid hp
  have HS := Lib.hid hs
  have HB := Lib.hid hb
  have HI : Hid ((Tryz.prog.info? 46).map (·.size) = some 12) := Lib.hid (by kernel_rfl)
  obtain ⟨ls, n, hf⟩ : ∃ ls n, framesN st = (ls, n) := ⟨_, _, rfl⟩
  have HF := Lib.hid hf
  obtain ⟨x, bx, hrep⟩ : ∃ x b, replayD d ls = (x, b) := ⟨_, _, rfl⟩
  have HREP := Lib.hid hrep
  obtain ⟨ans, hans⟩ : ∃ ans, agB d s st = ans := ⟨_, rfl⟩
  rw [hans]
  have HANS : Hid (ans = (planOkB d && decide (st.length ≤ 1200) && decide (n = st.length) && decide ((x, bx) = (s, true)))) := Lib.hid (by rw [← hans]; unfold agB; rw [hf]; dsimp only; rw [hrep])
  clear hans
  have X0 := Own.box w (agC p0 p1 p2 p3 d.l d.p d.t s.ph s.co s.ck s.bo s.ba s.lb s0 s1 s2 s3 s.gd s.pr (.slice Ab st.length cb)) 48
  clear h hp hs hb hre hf hrep hcap
  have i0 : (st.length : Int) ≤ 1048576 := by omega
  go_enter Tryz.func7, Tryz.ntmps7
  go_wp2_with fail
  generalize w.alloc (.cells (agC p0 p1 p2 p3 d.l d.p d.t s.ph s.co s.ck s.bo s.ba s.lb s0 s1 s2 s3 s.gd s.pr (.slice Ab st.length cb)) 48) = w0 at X0 ⊢
  refine (spec_planOk_any _ d w0 ((HP.out.below X0.K (Nat.le_refl _)).more X0.K.size).is).mono ?_
  rintro e w1 ⟨rfl, hb⟩
  have X1 := X0.step hb
  have hC := X1.C
  clear X0 hb
  cases hok : planOkB d
  case false =>
    have HT : Hid (ans = false) := Lib.hid (by rw [HANS.out, hok]; rfl)
    clear hok
    go_wp2
    all_goals (go_ret; exact ⟨by rw [HT.out]; rfl, X1.K⟩)
  have HOK := Lib.hid hok
  clear hok
  by_cases hle : st.length ≤ 1200
  case neg =>
    have HT : Hid (ans = false) := Lib.hid (by rw [HANS.out, decide_eq_false hle]; simp)
    have e0 : decide ((1200 : Int) < (st.length : Int)) = true := by simp; omega
    have e1 : decide ((st.length : Int) > 1200) = true := e0
    clear hle
    go_wp2
    all_goals (go_ret; exact ⟨by rw [HT.out]; rfl, X1.K⟩)
  have i1 : (st.length : Int) ≤ 1200 := by omega
  have HLE := Lib.hid hle
  clear hle i0
  go_wp2_with fail
  refine (specReadFrames_any _ st w1 ((HB.out.below X1.K (Nat.le_refl _)).more X1.K.size) (by omega)).mono ?_
  rintro e w2 ⟨vl, rfl, OL, hb⟩
  rw [HF.out] at OL ⊢
  dsimp only at OL ⊢
  have X2 := X1.step hb
  clear X1 hb hC
  have hC := X2.C
  have SL := Lib.hid OL.st
  obtain ⟨⟨LA, lc, rfl, -⟩, -⟩ := OL.st
  clear OL
  by_cases hn : n = st.length
  case neg =>
    have HT : Hid (ans = false) := Lib.hid (by rw [HANS.out, decide_eq_false hn]; simp)
    have e0 : ((n : Int) == (st.length : Int)) = false := beq_eq_false_iff_ne.2 (fun h => hn (by omega))
    have e1 : ((n : Int) != (st.length : Int)) = true := bne_iff_ne.2 (fun h => hn (by omega))
    clear hn
    go_wp2
    all_goals (go_ret; exact ⟨by rw [HT.out]; rfl, X2.K⟩)
  have HNL := Lib.hid hn
  have e0 : ((n : Int) == (st.length : Int)) = true := beq_iff_eq.2 (by omega)
  have e1 : ((n : Int) != (st.length : Int)) = false := by rw [bne, e0]; rfl
  clear hn
  go_wp2_with fail
  clear e0 e1
  have hrp := l15Replay_any _ _ d ls w2 ((HP.out.below X2.K (Nat.le_refl _)).more X2.K.size).is SL.out HOK.out
  rw [HREP.out] at hrp
  refine hrp.mono ?_
  clear hrp
  rintro e w3 ⟨vs, rfl, OT, hb⟩
  have X3 := X2.step hb
  clear X2 hb hC SL
  obtain ⟨y0, y1, y2, y3, rfl, -⟩ := OT.it
  obtain ⟨⟨B0, e0, rfl⟩, ⟨B1, e1, rfl⟩, ⟨B2, e2, rfl⟩, ⟨B3, e3, rfl⟩⟩ := OT.shapes
  have HB8 := heap_alloc_new w3 (.cells (stC none none none none 0 0 0 0 0 0 0 0 0 false 0 0 0 0 0 0) 46)
  go_upto_region 7 with (
    (with_reducible refine store_state (x := 5) (y := 33) (g := w3.heap.size) (cs := stC B0 B1 B2 B3 x.pods.length e0 x.mnts.length e1 x.devs.length e2 x.lks.length e3 x.ph x.co x.ck x.bo x.ba x.lb x.gd x.pr) ?_ ?_ HB8 ?_ ?_ ?_ ?_)
    · rfl
    · rfl
    · exact HI.out
    · rfl
    · simp [Value.oneCell'])
  have hA : Below w3.heap.size w3 (w3.alloc (.cells (stC none none none none 0 0 0 0 0 0 0 0 0 false 0 0 0 0 0 0) 46)) := (Below.refl _ _).alloc (Nat.le_refl _) _
  have hA2 := below_setRow hA (Nat.le_refl _) (stC B0 B1 B2 B3 x.pods.length e0 x.mnts.length e1 x.devs.length e2 x.lks.length e3 x.ph x.co x.ck x.bo x.ba x.lb x.gd x.pr)
  have X4 := X3.step hA2
  have OT4 := Lib.hid (OT.below hA2)
  have HB9 := setRow_heap _ _ _ (stC B0 B1 B2 B3 x.pods.length e0 x.mnts.length e1 x.devs.length e2 x.lks.length e3 x.ph x.co x.ck x.bo x.ba x.lb x.gd x.pr) _ _ HB8
  clear X3 hA hA2 OT HB8
  generalize (w3.alloc (.cells (stC none none none none 0 0 0 0 0 0 0 0 0 false 0 0 0 0 0 0) 46)).setRow w3.heap.size (stC B0 B1 B2 B3 x.pods.length e0 x.mnts.length e1 x.devs.length e2 x.lks.length e3 x.ph x.co x.ck x.bo x.ba x.lb x.gd x.pr) = w4 at X4 OT4 HB9 ⊢
  generalize w3.heap.size = g at HB9 ⊢
  have hC := X4.C
  have hD : ∀ o, w4.cell? ⟨g, o, none⟩ = (stC B0 B1 B2 B3 x.pods.length e0 x.mnts.length e1 x.devs.length e2 x.lks.length e3 x.ph x.co x.ck x.bo x.ba x.lb x.gd x.pr)[o]? := fun o => cell_of_row _ _ o _ _ _ HB9
  clear HB9
  cases bx
  · have HT : Hid (ans = false) := Lib.hid (by rw [HANS.out]; simp)
    go_wp2
    all_goals (go_ret; exact ⟨by rw [HT.out]; rfl, X4.K⟩)
  · have HT : Hid (ans = decide (x = s)) := Lib.hid (by rw [HANS.out, HOK.out, decide_eq_true HLE.out, decide_eq_true HNL.out]; simp)
    go_wp2_with fail
    refine (specSame_any _ _ x s w4 OT4.out.st ((HS.out.below X4.K (Nat.le_refl _)).more X4.K.size).is).mono ?_
    rintro e w5 ⟨rfl, hb⟩
    rw [← HT.out]
    have X5 := X4.step hb
    clear X4 hb hC hD
    go_wp2
    all_goals (go_ret; exact ⟨rfl, X5.K⟩)

end Go.Proofs.YtkefbmbjkijilaaGreatDoor
/- Lr -/
set_option linter.unusedVariables false
namespace Go.Proofs.YtkefbmbjkijilaaGreatDoor
/- named behind this: Apart Blk BoxS Bt C FramedD From IsAg IsPlR IsPlan IsSt IsStR Keeps Lists LkR MadeAg MadePl MadeS Names NewB NewPlan OB OI OL OR OS ObeyedA Own OwnAg OwnSt PlFits PlanD Puts Real RecD Row1 RowB RowF RowU Rows4 RowsIn RowsR Rt Seg Sl SlV SmallB StD StFits StOk TP Two Walked WithD Written add_zero_block agB agC agg_of_trod all allS all_done all_set all_set2 alloc allocDrew alloc_here alloc_there anyUp anyUp_next any_none any_some apart apart_of append append_news append_rec append_recs appliedL appliedL_fitsY appliedS appliedS_fits aside at2 at2_drop at2_lt at_ at_of_map base below below' block blocks bool_eq box box2 boxed_below boxed_none bt byteV byteV_get calls_at calls_from cell cell_far cell_new cells cellsI cellsI_at cellsI_len cellsI_one cntV congr countersOf_any devA devCs devCs_at devCs_len drew drop empty endOf eqByteS_same eqPlan_same eqRecS_same eqState_same eql_cnt ext far far20 farKeeps fields_plan fields_rec fields_state first fits_ok fits_tot flat flat_append flat_length form formR found frameN frameN_length framedD framedD_le2 framedD_max framedD_no framedD_yes framed_any framesN framesN_le freeB freeG frozen fs_device fs_mntAt fs_mount fs_pod fs_podAt fs_rec getD getD_drop giveB giveG go goK goodR grown grown_at grown_sets hP head headOf heap_put7 heap_size_alloc_ heldB heldIn_any heldR_any heldRecS_any heldState_any if_pick implAll_any implNewState_any implSame_any implStateOk_any infoS_bool infoS_i64 infoS_mnt infoS_pod info_device info_mount info_pod info_rec info_u8 insert_end insert_grow insert_room intFields into is isR it keep_none keeps keepsT keeps_put12 keeps_put20 keeps_put7 keeps_setRow l11Held_any l11Releasing_any l14Snap_any l15Copy_any l15Obey_any l15PlanCopy_any l15Replay_any l15Write_any l1Copy_any l4Of_any l4Two_any l5Copy_any l6All_any l9Free_any l9Give_any laidWorld_met laid_ le_alloc len lkCs lkCs_len lkCs_one lkCs_put lk_cells lk_oneC load_agent low lt m3 made_at made_devs made_mnts made_pods markByteS_any markIn_any markInt64S_any markPlan_num markR_any markRecS_any markS markState_any markU mkDevs_len mkLks_len mkMnts_len mkPods_len mntA mntAt mntAt_ok mntCs mntCs_at mntCs_len mntRec mono more most names_of_laid new newAgent_any newS newS_ok newStV news_bytes nil nil_ no obeyD of of_below of_cells of_grownE of_grownX of_ok ok one_bytes one_cell_recs open_ open_bt open_plan open_rec open_recs open_row open_rowR open_state ordC out own own_ own_of_heap ownsRow_base ownsRow_below ownsRow_keeps plR plan planC planOkB planOk_any planV plannedD planned_any podA podCs podCs_at podCs_len podCs_map push put put1 put2 put20 put7 putN_pos put_cells put_deferred put_len put_loop readD_len readFrames_any readN readRecs_any real recC recVs recVs_append recVs_len recsFrom recsOf recsOf_le recsOf_next recsOf_none recsOf_some recsOf_zero recs_start refl releaseL replayD results_two_row ret_bool ret_two rise_len row row_apart row_grown row_pick row_type rows rowsIn rt runLs_ok same set set20 setRow set_box sets shapes size_ok sizesB sl sl_ints sl_structs sliceEqDev_any sliceEqLk_any sliceEqMnt_any sliceEqPod_any slice_len slv slv_bools slv_ints slv_mnts slv_pods snapA snapA_le snapB snapB_le snapL snapM snapM_le snapP snapP_le snapV snapV_le specAgentOkX_any specFramed_any specNewState_any specReadFrames_any specReadRecs_any specRecBytes_any specSame_any specStateOk_any specSumOf_any spec_planOk_any st stC stOkB stOkB_iff st_small start step step_append_bt step_from store store_agent store_state sumN sumN_lt sumN_take szI szI_neg szI_pos szP szPlan_any szRecS_any szS szState_any take toByteS_any toPlan_any toRecS_any toRec_any toState_any top totS tot_half trans turn two twoN upTo upTo_le val wholeFrames_any withD_no withD_yes withOk wpList_append_bt wpList_append_slv writeB writeD writeD_len wroteN wroteN_len wroteN_pos wroteN_yes yes z zero zeroS -/
end Go.Proofs.YtkefbmbjkijilaaGreatDoor
