/-
  What FnBoots and FnProbes ask, as data; the model's DownIn of a machine that is down.
-/
import Derived.Test.YtmgckdmglnmnnaaGreatDoorMZ13
import Derived.Test.YtmgckdmglnmnnaaGreatDoorMZ5
import Derived.Test.YtmgckdmglnmnnaaGreatDoorMZxWl
import Derived.Test.YtmgckdmglnmnnaaGreatDoorMZxXj
import Derived.Test.YtmgckdmglnmnnaaGreatDoorMZ9
import Derived.Test.YtmgckdmglnmnnaaGreatDoorMZxWj
/- Tt -/
set_option linter.unusedVariables false
namespace Go.Proofs.YtmgckdmglnmnnaaGreatDoor
open Go.RowKit

/-- Behind another boot: a pod has turned just if it was alive, and then it has failed. -/
theorem boot_pods {d : PlanD} {s : StD} {id : Int} (h : StOk d s) {i : Nat} (hi : i < d.n0) : (aliveB (podAt s i).1 = true → podAt (bootS d s id) i = (5, s.ck) ∧ podAt (bootS d s id) i ≠ podAt s i) ∧ (aliveB (podAt s i).1 = false → podAt (bootS d s id) i = podAt s i) := by
  have hl : i < s.pods.length := by rw [h.np]; exact hi
  have e : podAt (bootS d s id) i = (match failG s i with | some x => (x, s.ck) | none => podAt s i) := by
    unfold podAt bootS
    dsimp only
    rw [turn_getD hl hi (f := fun _ _ x => (x, s.ck)) (g := failG s) (z := ((0, 0) : Int × Int))]
    cases failG s i <;> rfl
  refine ⟨fun ha => ?_, fun ha => ?_⟩
  · have e2 : failG s i = some 5 := by unfold failG; rw [if_pos ha]
    rw [e, e2]
    refine ⟨rfl, fun hh => ?_⟩
    rw [← hh] at ha
    cases ha
  · have e2 : failG s i = none := by unfold failG; rw [ha]; rfl
    rw [e, e2]
end Go.Proofs.YtmgckdmglnmnnaaGreatDoor
/- Op -/
set_option linter.unusedVariables false
namespace Go.Proofs.YtmgckdmglnmnnaaGreatDoor
open Go.RowKit

theorem liveL_none {s : StD} (h : ∀ i, i < s.pods.length → aliveB (podA s.pods i).1 = false) : liveL s = [] := by
  refine List.eq_nil_iff_forall_not_mem.2 fun x hx => ?_
  obtain ⟨i, hi, -, ha⟩ := picks_mem (n := s.pods.length) (p := liveP s) hx
  rw [liveP, h i hi] at ha
  cases ha
/-- What another boot answers is applied: it is down, nobody is let in, nothing is counted, and of each pod that was alive it is told that it has failed; or nothing, with a code. -/
theorem boot_good {d : PlanD} {s : StD} {id : Int} {l : List RecD} {cd : Int} (h : (if stOkB d s then bootD d s id else noR 1) = (l, cd)) :
    (cd = 0 ∧ ∃ x, appliedL d s l = (x, true) ∧ (if stOkB d x then bootD d x id else noR 1) = ([], 6) ∧ liveL x = [] ∧ heldB x = false ∧ x.bo = id ∧ x.co = true ∧ x.lks = [] ∧ x.gd = 0 ∧ x.pods.length = s.pods.length ∧
      (∀ i, i < s.pods.length → (aliveB (podA s.pods i).1 = true → (podA x.pods i).1 = 5 ∧ podA x.pods i ≠ podA s.pods i) ∧ (aliveB (podA s.pods i).1 = false → podA x.pods i = podA s.pods i)) ∧ StFits x 1048576 ∧ (x.ph = 6 ∨ s.ph = 8)) ∨ (cd ≠ 0 ∧ l = []) := by
  by_cases hs : stOkB d s = true
  · rw [if_pos hs] at h
    have hok := stOkB_iff.1 hs
    unfold bootD at h
    split at h
    · rename_i hin
      have hi : 1 ≤ id ∧ id ≤ 1000000 := inB_true.1 hin
      split at h
      · right
        cases h
        exact ⟨by decide, rfl⟩
      · left
        injection h with h1 h2
        subst h1 h2
        have hx := boot_ok hok hi
        have hlen : (bootS d s id).pods.length = s.pods.length := by rw [hx.np, hok.np]
        refine ⟨rfl, bootS d s id, by rw [appliedL, if_pos hs, boot_run hok hi], ?_, liveL_none fun i hl => boot_dead hok (by rw [← hx.np]; exact hl), boot_held hok hi, rfl, rfl, rfl, rfl, hlen, fun i hl => ?_, fits_ok hx, ?_⟩
        · rw [if_pos (stOkB_iff.2 hx), bootD, if_pos hin, if_pos (show id = (bootS d s id).bo from rfl)]
          rfl
        · have hb := boot_pods (id := id) hok (i := i) (by rw [← hok.np]; exact hl)
          refine ⟨fun ha => ?_, hb.2⟩
          have := hb.1 ha
          exact ⟨by rw [show podA (bootS d s id).pods i = (5, s.ck) from this.1], this.2⟩
        · by_cases h8 : s.ph = 8
          · exact .inr h8
          · exact .inl (by show (if s.ph = 8 then (8 : Int) else 6) = 6; rw [if_neg h8])
    · right
      cases h
      exact ⟨by decide, rfl⟩
  · rw [if_neg hs] at h
    right
    cases h
    exact ⟨by decide, rfl⟩
set_option maxRecDepth 4000 in
set_option maxHeartbeats 4000000 in
theorem specDown_any (sv : Value) (s : StD) (w : World) (hs : IsSt w w.heap.size sv s) (hn : s.pods.length ≤ 1048576) (hl : liveL s = []) (hh : heldB s = false) :
    Calls Tryz.prog 10 #[sv] w fun e w' => e = .returned (.bool true) ∧ Below w.heap.size w w' := by
  have HS := Lib.hid hs
  obtain ⟨⟨A0, A1, A2, A3, c0, c1, c2, c3, rfl, -, -, -, -⟩, -, -, -, -⟩ := hs
  have X := Own.box w (stC A0 A1 A2 A3 s.pods.length c0 s.mnts.length c1 s.devs.length c2 s.lks.length c3 s.ph s.co s.ck s.bo s.ba s.lb s.gd s.pr) 34
  have hC := X.C
  go_enter Tryz.func10, Tryz.ntmps10
  go_wp2_with fail
  refine (specLiveIn_any _ s _ ((HS.out.below X.K (Nat.le_refl _)).more X.K.size) hn).mono ?_
  rintro e w1 ⟨v, rfl, O, hb⟩
  rw [hl] at O
  obtain ⟨AL, cL, rfl, -, -⟩ := open_rowR O
  replace X := X.step hb
  clear hC hb O
  have hC := X.C
  go_wp2_with fail
  refine (l11Held_any _ s _ ((HS.out.below X.K (Nat.le_refl _)).more X.K.size)).mono ?_
  rw [hh]
  rintro e w2 ⟨rfl, hb⟩
  replace X := X.step hb
  go_wp2
  go_ret
  exact ⟨rfl, X.K⟩
end Go.Proofs.YtmgckdmglnmnnaaGreatDoor
