/-
  The exact laws of chapter 7: their walks.
-/
import Derived.Test.YtbcpimnbmjhjlaaKa
import Derived.Deep.RegionHeld3
set_option linter.unusedVariables false
namespace Go.Proofs.Ytbcpimnbmjhjlaa
open Go.RowKit

theorem lawAfterHook (x : Int) (w : World) : Calls Try.prog 4 #[.int .i64 x] w fun e w' => e = .returned (.bool true) ∧ Below w.heap.size w w' := by
  go_enter Try.func4, Try.ntmps4
  go_wp2_with fail
  refine (specHook_any _ _).mono ?_
  rintro e w1 ⟨rfl, rfl⟩
  go_wp2_with fail
  refine (implHook_any _ _).mono ?_
  rintro e w2 ⟨rfl, rfl⟩
  generalize hookD x = ans
  go_wp2
  all_goals go_ret
  all_goals exact ⟨ret_bool (by simp), Below.refl _ _⟩

theorem lawAfterExit (x : Int) (w : World) : Calls Try.prog 5 #[.int .i64 x] w fun e w' => e = .returned (.bool true) ∧ Below w.heap.size w w' := by
  go_enter Try.func5, Try.ntmps5
  go_wp2_with fail
  refine (specExit_any _ _).mono ?_
  rintro e w1 ⟨rfl, rfl⟩
  go_wp2_with fail
  refine (implExit_any _ _).mono ?_
  rintro e w2 ⟨rfl, rfl⟩
  generalize exitD x = ans
  go_wp2
  all_goals go_ret
  all_goals exact ⟨ret_bool (by simp), Below.refl _ _⟩

theorem toPodP_any (a b c d : Int) (w : World) :
    Calls Try.prog 8 #[.agg #[.int .i64 a, .int .i64 b, .int .i64 c, .int .i64 d]] w fun e w' => e = .returned (.agg #[.int .i64 a, .int .i64 b, .int .i64 c, .int .i64 d]) ∧ Below w.heap.size w w' := by
  go_enter Try.func8, Try.ntmps8
  go_wp2
  exact bodyPost_ret (v := .agg #[.int .i64 a, .int .i64 b, .int .i64 c, .int .i64 d]) (by simp [results, Try.results8, go_sem]) rfl ⟨rfl, (((Below.refl _ _).alloc (Nat.le_refl _) _).alloc (by simp) _).alloc (by simp; omega) _⟩
theorem toAtP_any (a b : Int) (w : World) :
    Calls Try.prog 9 #[.agg #[.int .i64 a, .int .i64 b]] w fun e w' => e = .returned (.agg #[.int .i64 a, .int .i64 b]) ∧ Below w.heap.size w w' := by
  go_enter Try.func9, Try.ntmps9
  go_wp2
  exact bodyPost_ret (v := .agg #[.int .i64 a, .int .i64 b]) (by simp [results, Try.results9, go_sem]) rfl ⟨rfl, (((Below.refl _ _).alloc (Nat.le_refl _) _).alloc (by simp) _).alloc (by simp; omega) _⟩
set_option maxHeartbeats 2000000 in
theorem lawPodStep (gr ba grace hook st since clock : Int) (w : World) : Calls Try.prog 3 #[.agg #[.int .i64 gr, .int .i64 ba, .int .i64 grace, .int .i64 hook], .agg #[.int .i64 st, .int .i64 since], .int .i64 clock] w fun e w' => e = .returned (.bool true) ∧ Below w.heap.size w w' := by
  have HP : Hid (∀ (a b c d : Int) (W : World), Calls Try.prog 8 #[.agg #[.int .i64 a, .int .i64 b, .int .i64 c, .int .i64 d]] W fun e w' => e = .returned (.agg #[.int .i64 a, .int .i64 b, .int .i64 c, .int .i64 d]) ∧ Below W.heap.size W w') := Lib.hid toPodP_any
  have Y1 := (Own.box2 (Below.refl _ _) #[.int .i64 gr, .int .i64 ba, .int .i64 grace, .int .i64 hook] 23).alloc (.cells #[.int .i64 st, .int .i64 since] 25) (w := w)
  have Y2 := Own.box2 ((Below.refl _ _).alloc (Nat.le_refl _) (.cells #[.int .i64 gr, .int .i64 ba, .int .i64 grace, .int .i64 hook] 23)) #[.int .i64 st, .int .i64 since] 25 (w := w)
  rw [show ∀ (W : World) (o : Obj), (W.alloc o).heap.size = W.heap.size + 1 from fun W o => by simp] at Y2
  go_enter Try.func3, Try.ntmps3
  go_wp2_with fail
  generalize (w.alloc (.cells #[.int .i64 gr, .int .i64 ba, .int .i64 grace, .int .i64 hook] 23)).alloc (.cells #[.int .i64 st, .int .i64 since] 25) = w1 at Y1 Y2 ⊢
  have Ks0 : Below w1.heap.size w1 w1 := Below.refl _ _
  have Ks0d : Below w1.heap.size w1 w1.drew := Ks0.drew
  have Ss0 := And.intro (Y1.step Ks0).C (And.intro (Y2.step Ks0).C Ks0)
  have Ss0d := And.intro (Y1.step Ks0d).C (And.intro (Y2.step Ks0d).C Ks0d)
  go_region_held3 (fun W => (∀ o, W.cell? ⟨w.heap.size, o, none⟩ = (#[.int .i64 gr, .int .i64 ba, .int .i64 grace, .int .i64 hook] : Array Value)[o]?) ∧ (∀ o, W.cell? ⟨w.heap.size + 1, o, none⟩ = (#[.int .i64 st, .int .i64 since] : Array Value)[o]?) ∧ Below w1.heap.size w1 W)
    (first | assumption)
    (first
      | (go_at_call 8
         refine (toPodP_any _ _ _ _ _).mono ?_
         rintro e wps ⟨rfl, hb⟩
         have Kps : Below w1.heap.size w1 wps := by first | exact Below.trans (by assumption) (hb.mono (Below.size (by assumption)))
         have Sps := And.intro (Y1.step Kps).C (And.intro (Y2.step Kps).C Kps)
         clear hb)
      | (go_at_call 9
         refine (toAtP_any _ _ _).mono ?_
         rintro e was ⟨rfl, hb⟩
         have Kas : Below w1.heap.size w1 was := by first | exact Below.trans (by assumption) (hb.mono (Below.size (by assumption)))
         have Sas := And.intro (Y1.step Kas).C (And.intro (Y2.step Kas).C Kas)
         clear hb)
      | (go_at_call 7
         refine (specStep_any _ _ _ _ _ _ _ _).mono ?_
         rintro e wcs ⟨rfl, hb⟩
         have Kcs : Below w1.heap.size w1 wcs := by first | exact Below.trans (by assumption) (hb.mono (Below.size (by assumption)))
         have Scs := And.intro (Y1.step Kcs).C (And.intro (Y2.step Kcs).C Kcs)
         clear hb))
  replace Y1 := Y1.step Kcs
  replace Y2 := Y2.step Kcs
  clear Ks0 Ks0d Ss0 Ss0d Kps Sps Kas Sas Scs
  go_wp2_with fail
  have Ki0 : Below wcs.heap.size wcs wcs := Below.refl _ _
  have Ki0d : Below wcs.heap.size wcs wcs.drew := Ki0.drew
  have Si0 := And.intro (Y1.step Ki0).C (And.intro (Y2.step Ki0).C Ki0)
  have Si0d := And.intro (Y1.step Ki0d).C (And.intro (Y2.step Ki0d).C Ki0d)
  go_region_held3 (fun W => (∀ o, W.cell? ⟨w.heap.size, o, none⟩ = (#[.int .i64 gr, .int .i64 ba, .int .i64 grace, .int .i64 hook] : Array Value)[o]?) ∧ (∀ o, W.cell? ⟨w.heap.size + 1, o, none⟩ = (#[.int .i64 st, .int .i64 since] : Array Value)[o]?) ∧ Below wcs.heap.size wcs W)
    (first | assumption)
    (first
      | (go_at_call 8
         refine (toPodP_any _ _ _ _ _).mono ?_
         rintro e wpi ⟨rfl, hb⟩
         have Kpi : Below wcs.heap.size wcs wpi := by first | exact Below.trans (by assumption) (hb.mono (Below.size (by assumption)))
         have Spi := And.intro (Y1.step Kpi).C (And.intro (Y2.step Kpi).C Kpi)
         clear hb)
      | (go_at_call 9
         refine (toAtP_any _ _ _).mono ?_
         rintro e wai ⟨rfl, hb⟩
         have Kai : Below wcs.heap.size wcs wai := by first | exact Below.trans (by assumption) (hb.mono (Below.size (by assumption)))
         have Sai := And.intro (Y1.step Kai).C (And.intro (Y2.step Kai).C Kai)
         clear hb)
      | (go_at_call 10
         refine (implStep_any _ _ _ _ _ _ _ _).mono ?_
         rintro e wci ⟨rfl, hb⟩
         have Kci : Below wcs.heap.size wcs wci := by first | exact Below.trans (by assumption) (hb.mono (Below.size (by assumption)))
         have Sci := And.intro (Y1.step Kci).C (And.intro (Y2.step Kci).C Kci)
         clear hb))
  have KE := Y1.K.trans (Kci.mono Y1.K.size)
  generalize stepD hook grace st (wrap64 (clock - since)) = ans
  go_wp2
  all_goals go_ret
  all_goals exact ⟨ret_bool (by simp), KE⟩
end Go.Proofs.Ytbcpimnbmjhjlaa
