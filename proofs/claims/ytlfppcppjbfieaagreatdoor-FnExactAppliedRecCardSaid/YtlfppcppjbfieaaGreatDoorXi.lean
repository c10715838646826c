/-
  The program's table of changes.
-/
import Derived.Test.YtlfppcppjbfieaaGreatDoorXg
import Derived.Test.YtlfppcppjbfieaaGreatDoorXh
import Derived.Laws.EntriesVeiled
set_option linter.unusedVariables false
namespace Go.Proofs.YtlfppcppjbfieaaGreatDoor
open Go.RowKit

/-- The table. -/
abbrev chgT : Array Value := #[.nilFunc, .func (.func 87) #[] #[], .func (.func 88) #[] #[], .func (.func 89) #[] #[], .func (.func 90) #[] #[], .func (.func 91) #[] #[], .func (.func 92) #[] #[], .func (.func 93) #[] #[], .func (.func 94) #[] #[], .func (.func 95) #[] #[], .func (.func 96) #[] #[], .func (.func 97) #[] #[], .func (.func 98) #[] #[]]
set_option maxRecDepth 4000 in
set_option maxHeartbeats 2000000 in
theorem kindChanges_any (w : World) : Calls Tryz.prog 63 #[] w fun e w' => e = .returned (.agg chgT) ∧ Below w.heap.size w w' := by
  go_enter Tryz.func63, Tryz.ntmps63
  go_wp2
  refine bodyPost_ret (v := .agg chgT) (by simp [results, Tryz.results63, go_sem]) rfl ?_
  exact ⟨rfl, (Below.refl _ _).alloc (Nat.le_refl _) _⟩
theorem enter_chg1 (args : Array Value) (w : World) : (callFunc 87 args).run Tryz.prog w = .ok (.enter 87 args) w := by simp [go_sem]
theorem enter_chg2 (args : Array Value) (w : World) : (callFunc 88 args).run Tryz.prog w = .ok (.enter 88 args) w := by simp [go_sem]
theorem enter_chg3 (args : Array Value) (w : World) : (callFunc 89 args).run Tryz.prog w = .ok (.enter 89 args) w := by simp [go_sem]
theorem enter_chg4 (args : Array Value) (w : World) : (callFunc 90 args).run Tryz.prog w = .ok (.enter 90 args) w := by simp [go_sem]
theorem enter_chg5 (args : Array Value) (w : World) : (callFunc 91 args).run Tryz.prog w = .ok (.enter 91 args) w := by simp [go_sem]
theorem enter_chg6 (args : Array Value) (w : World) : (callFunc 92 args).run Tryz.prog w = .ok (.enter 92 args) w := by simp [go_sem]
theorem enter_chg7 (args : Array Value) (w : World) : (callFunc 93 args).run Tryz.prog w = .ok (.enter 93 args) w := by simp [go_sem]
theorem enter_chg8 (args : Array Value) (w : World) : (callFunc 94 args).run Tryz.prog w = .ok (.enter 94 args) w := by simp [go_sem]
theorem enter_chg9 (args : Array Value) (w : World) : (callFunc 95 args).run Tryz.prog w = .ok (.enter 95 args) w := by simp [go_sem]
theorem enter_chg10 (args : Array Value) (w : World) : (callFunc 96 args).run Tryz.prog w = .ok (.enter 96 args) w := by simp [go_sem]
theorem enter_chg11 (args : Array Value) (w : World) : (callFunc 97 args).run Tryz.prog w = .ok (.enter 97 args) w := by simp [go_sem]
theorem enter_chg12 (args : Array Value) (w : World) : (callFunc 98 args).run Tryz.prog w = .ok (.enter 98 args) w := by simp [go_sem]
/-- What a record's change does, by the table. -/
theorem change_at (s : StD) (r : RecD) (hk : recOkB r = true) (ht : thereB s r = true) (hr : s.lks.Pairwise (· < ·)) (hf : s.lks.length ≤ 1048576) :
    ∃ f, chgT[r.k.toNat]? = some (.func (.func f) #[] #[]) ∧ (∀ args w, (callFunc f args).run Tryz.prog w = .ok (.enter f args) w) ∧
      ∀ (v : Value) (w : World) (B g : Nat), B ≤ w.heap.size → BxS w B g v s → Calls Tryz.prog f #[.pointer (some ⟨g, 0, none⟩), .int .i64 r.a, .int .i64 r.b] w (Chg w B g v (applyR s r)) := by
  obtain ⟨k, a, b⟩ := r
  rw [recOkB_true] at hk
  simp only [] at hk
  have ha0 : 0 ≤ a := by omega
  have h12 : k = 1 ∨ k = 2 ∨ k = 3 ∨ k = 4 ∨ k = 5 ∨ k = 6 ∨ k = 7 ∨ k = 8 ∨ k = 9 ∨ k = 10 ∨ k = 11 ∨ k = 12 := by omega
  clear hk
  rcases h12 with rfl | rfl | rfl | rfl | rfl | rfl | rfl | rfl | rfl | rfl | rfl | rfl
  · by_cases ha : a = 0
    · subst ha
      exact ⟨_, rfl, enter_chg1, fun v w B g hB h => chg_idle v s b w B g hB h⟩
    · exact ⟨_, rfl, enter_chg1, fun v w B g hB h => chg_phase v s a b w B g h ha⟩
  · exact ⟨_, rfl, enter_chg2, fun v w B g hB h => chg_pod v s a b w B g h ha0 (by simpa [thereB] using ht)⟩
  · exact ⟨_, rfl, enter_chg3, fun v w B g hB h => chg_busy v s a b w B g h ha0 (by simpa [thereB] using ht)⟩
  · exact ⟨_, rfl, enter_chg4, fun v w B g hB h => chg_free v s a b w B g h ha0 (by simpa [thereB] using ht)⟩
  · exact ⟨_, rfl, enter_chg5, fun v w B g hB h => chg_give v s a b w B g h ha0 (by simpa [thereB] using ht)⟩
  · exact ⟨_, rfl, enter_chg6, fun v w B g hB h => chg_lock v s a b w B g hB h hr hf⟩
  · exact ⟨_, rfl, enter_chg7, fun v w B g hB h => chg_unlock v s a b w B g hB h hr hf⟩
  · exact ⟨_, rfl, enter_chg8, fun v w B g hB h => chg_clock v s a b w B g h⟩
  · exact ⟨_, rfl, enter_chg9, fun v w B g hB h => chg_band v s a b w B g h⟩
  · exact ⟨_, rfl, enter_chg10, fun v w B g hB h => chg_boot v s a b w B g h⟩
  · exact ⟨_, rfl, enter_chg11, fun v w B g hB h => chg_lockBy v s a b w B g h⟩
  · exact ⟨_, rfl, enter_chg12, fun v w B g hB h => chg_probe v s a b w B g h⟩
end Go.Proofs.YtlfppcppjbfieaaGreatDoor
