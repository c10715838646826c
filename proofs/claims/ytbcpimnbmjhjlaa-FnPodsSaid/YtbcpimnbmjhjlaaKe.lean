/-
  FnPods' walk.
-/
import Derived.Test.YtbcpimnbmjhjlaaKc
import Derived.Test.YtbcpimnbmjhjlaaPr
import Derived.Test.YtbcpimnbmjhjlaaA8
import Derived.Deep.DeepCutAuto
set_option linter.unusedVariables false
namespace Go.Proofs.Ytbcpimnbmjhjlaa
open Go.RowKit

/-- How far a pod is at a clock, whose turn it is each time. -/
def PodAt_ (hook grace k st si : Int) : Prop :=
  (st = 0 ∧ k = 0 ∧ si = 0) ∨ (st = 1 ∧ 0 < hook ∧ si = 1 ∧ 1 ≤ k ∧ k ≤ hook) ∨ (st = 2 ∧ 1 ≤ si ∧ si ≤ hook + 1 ∧ si ≤ k ∧ k ≤ si + grace) ∨
  (st = 3 ∧ si = k ∧ 2 ≤ k ∧ k ≤ hook + grace + 2) ∨ (st = 4 ∧ 3 ≤ k ∧ k ≤ hook + grace + 3)
theorem podAt_step {hook grace k st si : Int} (hh : 0 ≤ hook) (hg : 0 ≤ grace) (h : PodAt_ hook grace k st si) (h4 : st ≠ 4) {n : Int} (hn : stepD hook grace st (k + 1 - si) = n) :
    st ≤ n ∧ k + 1 ≤ hook + grace + 3 ∧ (n = st → PodAt_ hook grace (k + 1) st si) ∧ (n ≠ st → PodAt_ hook grace (k + 1) n (k + 1)) := by
  subst hn
  unfold stepD
  rcases h with ⟨rfl, rfl, rfl⟩ | ⟨rfl, h1, rfl, h2, h3⟩ | ⟨rfl, h1, h2, h3, h5⟩ | ⟨rfl, rfl, h2, h3⟩ | ⟨rfl, h⟩
  · rw [if_pos rfl]
    split <;> refine ⟨by omega, by omega, fun e => by omega, fun _ => ?_⟩ <;> unfold PodAt_ <;> omega
  · rw [if_neg (by omega), if_pos rfl]
    split <;> refine ⟨by omega, by omega, fun e => ?_, fun e => ?_⟩ <;> unfold PodAt_ <;> omega
  · rw [if_neg (by omega), if_neg (by omega), if_pos rfl]
    split <;> refine ⟨by omega, by omega, fun e => ?_, fun e => ?_⟩ <;> unfold PodAt_ <;> omega
  · rw [if_neg (by omega), if_neg (by omega), if_neg (by omega), if_pos rfl]
    refine ⟨by omega, by omega, fun e => ?_, fun e => ?_⟩ <;> unfold PodAt_ <;> omega
  · exact absurd rfl h4

set_option maxRecDepth 100000 in
set_option maxHeartbeats 4000000 in
theorem lawPods (A : Option Addr) (n c : Nat) (w : World) (hB : Bytes w w.heap.size A n) (hn : n ≤ maxLen) : Calls Try.prog 6 #[.slice A n c] w fun e w' => e = .returned (.bool true) ∧ Below w.heap.size w w' := by
  have HB := Lib.hid hB
  clear hB
  go_enter Try.func6, Try.ntmps6
  go_wp2_with fail
  refine (big_any A n c _ hn).mono ?_
  rintro e w2 ⟨rfl, rfl⟩
  by_cases hbig : 4096 < (n : Int)
  · go_wp2_with fail
    go_ret
    exact ⟨rfl, Below.refl _ _⟩
  · have hn4 : n ≤ 4096 := by omega
    clear hbig
    go_wp2_with fail
    refine (roll_any A n c 6 _ HB.out hn4).mono ?_
    rintro e w2 ⟨g, rfl, hg, hc, K2⟩
    go_wp2_with fail
    refine (below_any g 9 _ hc (by omega) (by omega)).mono ?_
    rintro e w3 ⟨grace, rfl, gr0, gr1, -, hk⟩
    have K3 := K2.trans (hk.below (B := w.heap.size) K2.size (by rintro b hb rfl; omega))
    clear hc hk K2 hg
    go_wp2_with fail
    refine (roll_any A n c 7 _ ((HB.out.below K3 (Nat.le_refl _)).more K3.size) hn4).mono ?_
    rintro e w4 ⟨g', rfl, hg, hc, hb⟩
    have h34 := K3.size
    have K4 := K3.trans (hb.mono K3.size)
    clear hb K3
    go_wp2_with fail
    refine (below_any g' 7 _ hc (by omega) (by omega)).mono ?_
    rintro e w5 ⟨hook, rfl, ho0, ho1, -, hk⟩
    have K5 := K4.trans (hk.below (B := w.heap.size) K4.size (by rintro b hb rfl; omega))
    clear hc hk K4 hg h34
    go_upto_region 5 with fail
    have X := (Own.box2 K5 #[.int .i64 0, .int .i64 0, .int .i64 grace, .int .i64 hook] 27).alloc (.cells #[.int .i64 0, .int .i64 0] 29)
    have Y := Own.box2 (K5.alloc K5.size (.cells #[.int .i64 0, .int .i64 0, .int .i64 grace, .int .i64 hook] 27)) #[.int .i64 0, .int .i64 0] 29
    rw [show ∀ (W : World) (o : Obj), (W.alloc o).heap.size = W.heap.size + 1 from fun W o => by simp] at Y
    have h5 := K5.size
    generalize (w5.alloc (.cells #[.int .i64 0, .int .i64 0, .int .i64 grace, .int .i64 hook] 27)).alloc (.cells #[.int .i64 0, .int .i64 0] 29) = w6 at X Y ⊢
    generalize w5.heap.size = P at X Y h5 ⊢
    clear K5
    go_wp2_with fail
    go_loopw [5, 6] (fun c5 c6 wr => ∃ k st si : Int, c5 = .int .i64 k ∧ PodAt_ hook grace k st si ∧ Own w wr P #[.int .i64 0, .int .i64 0, .int .i64 grace, .int .i64 hook] ∧ Own w wr (P + 1) #[.int .i64 st, .int .i64 si]) (fun c5 _ _ => 20 - (intOf c5).toNat)
    case atStart => exact ⟨0, 0, 0, rfl, .inl ⟨rfl, rfl, rfl⟩, X, Y⟩
    case round =>
      clear X Y
      obtain ⟨k, st, si, rfl, hp, X, Y⟩ := hrel
      have hX := X.C
      have hY := Y.C
      have hYF := Y.F
      have hYz := Y.z
      by_cases h4 : st = 4
      · subst h4
        have hk3 : 3 ≤ k ∧ k ≤ 30 := by unfold PodAt_ at hp; omega
        clear hp
        go_wp2_with fail
        refine (drawPodStep_any A n c _ ((HB.out.below X.K (Nat.le_refl _)).more X.K.size) hn4).mono ?_
        rintro e wd ⟨gr, ba, grace2, hook2, st2, si2, clock, rfl, hb⟩
        have KD := X.K.trans (hb.mono X.K.size)
        clear X Y hX hY hYF hYz hb
        go_upto_region 14 with fail
        have X := (Own.box2 KD #[.int .i64 gr, .int .i64 ba, .int .i64 grace2, .int .i64 hook2] 27).alloc (.cells #[.int .i64 st2, .int .i64 si2] 29)
        have Y := Own.box2 (KD.alloc KD.size (.cells #[.int .i64 gr, .int .i64 ba, .int .i64 grace2, .int .i64 hook2] 27)) #[.int .i64 st2, .int .i64 si2] 29
        rw [show ∀ (W : World) (o : Obj), (W.alloc o).heap.size = W.heap.size + 1 from fun W o => by simp] at Y
        have h6 := KD.size
        generalize (wd.alloc (.cells #[.int .i64 gr, .int .i64 ba, .int .i64 grace2, .int .i64 hook2] 27)).alloc (.cells #[.int .i64 st2, .int .i64 si2] 29) = we at X Y ⊢
        generalize wd.heap.size = D at X Y h6 ⊢
        clear KD
        go_wp2_with fail
        go_loopw [10] (fun v8 wr => ∃ j : Nat, j ≤ 9 ∧ v8 = .int .i64 (-1 + j) ∧ Own w wr D #[.int .i64 gr, .int .i64 ba, .int .i64 grace2, .int .i64 hook2] ∧ Own w wr (D + 1) #[.int .i64 st2, .int .i64 si2]) (fun v8 _ => 9 - (intOf v8 + 1).toNat)
        case atStart => exact ⟨0, Nat.zero_le _, rfl, X, Y⟩
        case round =>
          clear X Y
          obtain ⟨j, hj, rfl, X, Y⟩ := hrel
          by_cases hlt : j < 9
          · go_wp2_with fail
            refine (implHook_any _ _).mono ?_
            rintro e wx ⟨rfl, rfl⟩
            go_wp2_with fail
            refine (specHook_any _ _).mono ?_
            rintro e wy ⟨rfl, rfl⟩
            generalize hookD (-1 + (j : Int)) = a1
            go_wp2_with fail
            refine (implExit_any _ _).mono ?_
            rintro e wx ⟨rfl, rfl⟩
            go_wp2_with fail
            refine (specExit_any _ _).mono ?_
            rintro e wy ⟨rfl, rfl⟩
            generalize exitD (-1 + (j : Int)) = a2
            go_wp2_with fail
            exact ⟨⟨j + 1, by omega, by go_num, X, Y⟩, by simp [intOf]; omega⟩
          · obtain rfl : j = 9 := by omega
            go_upto_region 19 with fail
            have K0 : Below w.heap.size w wr := X.K
            have K0d : Below w.heap.size w wr.drew := X.K.drew
            have S0 := And.intro X.C (And.intro Y.C K0)
            have S0d := And.intro X.drew.C (And.intro Y.drew.C K0d)
            have EI : Hid (∀ W, Below wr.heap.size wr W → Calls Try.prog 10 #[.agg #[.int .i64 gr, .int .i64 ba, .int .i64 grace2, .int .i64 hook2], .agg #[.int .i64 st2, .int .i64 si2], .int .i64 clock] W fun e w' => e = .returned (.int .i64 (stepD hook2 grace2 st2 (wrap64 (clock - si2)))) ∧ Below wr.heap.size wr w') :=
              Lib.hid fun W KW => (implStep_any _ _ _ _ _ _ _ W).mono fun e W' ⟨h, b⟩ => ⟨h, KW.trans (b.mono KW.size)⟩
            have ES : Hid (∀ W, Below wr.heap.size wr W → Calls Try.prog 7 #[.agg #[.int .i64 gr, .int .i64 ba, .int .i64 grace2, .int .i64 hook2], .agg #[.int .i64 st2, .int .i64 si2], .int .i64 clock] W fun e w' => e = .returned (.int .i64 (stepD hook2 grace2 st2 (wrap64 (clock - si2)))) ∧ Below wr.heap.size wr w') :=
              Lib.hid fun W KW => (specStep_any _ _ _ _ _ _ _ W).mono fun e W' ⟨h, b⟩ => ⟨h, KW.trans (b.mono KW.size)⟩
            generalize stepD hook2 grace2 st2 (wrap64 (clock - si2)) = ans at EI ES
            have R0 : Below wr.heap.size wr wr := Below.refl _ _
            have R0d : Below wr.heap.size wr wr.drew := R0.drew
            go_region_held3 (fun W => (∀ o, W.cell? ⟨D, o, none⟩ = (#[.int .i64 gr, .int .i64 ba, .int .i64 grace2, .int .i64 hook2] : Array Value)[o]?) ∧ (∀ o, W.cell? ⟨D + 1, o, none⟩ = (#[.int .i64 st2, .int .i64 si2] : Array Value)[o]?) ∧ Below w.heap.size w W)
              (first | assumption)
              (first
                | (go_at_call 10
                   refine (EI.out _ (by assumption)).mono ?_
                   rintro e wi ⟨rfl, Ki⟩
                   have Li := X.K.trans (Ki.mono X.K.size)
                   have Si := And.intro (X.step Ki).C (And.intro (Y.step Ki).C Li))
                | (go_at_call 7
                   refine (ES.out _ (by assumption)).mono ?_
                   rintro e wj ⟨rfl, Kj⟩
                   have Lj := X.K.trans (Kj.mono X.K.size)
                   have Sj := And.intro (X.step Kj).C (And.intro (Y.step Kj).C Lj)))
            all_goals
              go_wp2_with fail
              go_ret
              exact ⟨ret_bool (by simp), Lj⟩
      · have hd : k + 1 - si = wrap64 (k + 1 - si) := (IntWalk.wrap64_in _ (by unfold PodAt_ at hp; omega)).symm
        obtain ⟨nn, hnn⟩ : ∃ nn, stepD hook grace st (k + 1 - si) = nn := ⟨_, rfl⟩
        obtain ⟨p1, p2, p3, p4⟩ := podAt_step ho0 gr0 hp h4 hnn
        rw [hd] at hnn
        have hk0 : 0 ≤ k := by unfold PodAt_ at hp; omega
        have HH := Lib.hid (And.intro hnn (And.intro p3 p4))
        clear hd hnn p3 p4 hp
        go_wp2_with fail
        refine (implStep_any _ _ _ _ _ _ _ _).mono ?_
        rintro e wa ⟨rfl, hba⟩
        rw [HH.out.1]
        replace X := X.step hba
        replace Y := Y.step hba
        clear hba hX hY hYF hYz
        have hX := X.C
        have hY := Y.C
        go_wp2_with fail
        refine (specStep_any _ _ _ _ _ _ _ _).mono ?_
        rintro e wb ⟨rfl, hbb⟩
        rw [HH.out.1]
        replace X := X.step hbb
        replace Y := Y.step hbb
        clear hbb hX hY
        have hX := X.C
        have hY := Y.C
        have hYF := Y.F
        have hYz := Y.z
        by_cases hns : nn = st
        · have HP1 := Lib.hid (HH.out.2.1 hns)
          subst hns
          go_wp2_with fail
          exact ⟨⟨k + 1, _, si, by go_num, HP1.out, X, Y⟩, by simp [intOf]; omega⟩
        · have Y2 := (Y.set (by omega) (i := 0) (by simp) (.int .i64 nn)).set (by omega) (i := 1) (by simp) (.int .i64 (k + 1))
          have X2 := (X.far (p := ⟨P + 1, 0, none⟩) (by show w.heap.size ≤ P + 1; omega) (by show ¬ P + 1 = P; omega) (.int .i64 nn)).far (p := ⟨P + 1, 1, none⟩) (by show w.heap.size ≤ P + 1; omega) (by show ¬ P + 1 = P; omega) (.int .i64 (k + 1))
          go_wp2_with fail
          exact ⟨⟨k + 1, nn, k + 1, by go_num, HH.out.2.2 hns, X2, Y2⟩, by simp [intOf]; omega⟩
end Go.Proofs.Ytbcpimnbmjhjlaa
