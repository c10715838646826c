/-
  slices.Compact of at most twelve whole numbers in a block of the call's own: of equal neighbours one stays.
-/
import Derived.Test.YtmbblhnagohlhaaSa
import Derived.Lib.SliceRun
set_option linter.unusedVariables false
namespace Go.Proofs.Ytmbblhnagohlhaa
open Go.RowKit

/-- Of the first m those that are not as the one ahead of them. -/
def dd (x : Nat → Int) : Nat → List Int
  | 0 => []
  | m + 1 => if m = 0 ∨ x m ≠ x (m - 1) then dd x m ++ [x m] else dd x m
theorem dd_new {x : Nat → Int} {m : Nat} (h : m = 0 ∨ x m ≠ x (m - 1)) : dd x (m + 1) = dd x m ++ [x m] := if_pos h
theorem dd_old {x : Nat → Int} {m : Nat} (hm : 0 < m) (h : x m = x (m - 1)) : dd x (m + 1) = dd x m := if_neg (by omega)
theorem dd_le (x : Nat → Int) : ∀ m, (dd x m).length ≤ m
  | 0 => Nat.le_refl _
  | m + 1 => by
    have := dd_le x m
    unfold dd
    split
    · simp; omega
    · omega
/-- Where no two neighbours are alike all stay. -/
theorem dd_all {x : Nat → Int} : ∀ {m : Nat}, (∀ j, 0 < j → j < m → x j ≠ x (j - 1)) → (dd x m).length = m ∧ ∀ j, j < m → x j = (dd x m).getD j 0
  | 0, _ => ⟨rfl, fun j hj => by omega⟩
  | m + 1, h => by
    obtain ⟨h1, h2⟩ := dd_all (m := m) fun j h0 hj => h j h0 (by omega)
    have hn : m = 0 ∨ x m ≠ x (m - 1) := by
      by_cases e : m = 0
      · exact .inl e
      · exact .inr (h m (by omega) (by omega))
    rw [dd_new hn]
    refine ⟨by simp [h1], fun j hj => ?_⟩
    by_cases e : j = m
    · subst e
      simp [List.getD, h1]
    · rw [h2 j (by omega)]
      simp [List.getD, List.getElem?_append_left (show j < (dd x m).length by omega)]

theorem Cells.fill {g n : Nat} : ∀ (m o : Nat) {w : World} {y : Nat → Int}, Cells w g n y → ∃ z, Cells (w.setCells g o (List.replicate m (.int .i64 0))) g n z ∧ ∀ j, j < o → z j = y j
  | 0, o, w, y, h => ⟨y, h, fun _ _ => rfl⟩
  | m + 1, o, w, y, h => by
    obtain ⟨z, hz, e⟩ := Cells.fill m (o + 1) (h.set o 0)
    exact ⟨z, hz, fun j hj => (e j (by omega)).trans (if_neg (by omega))⟩
theorem Keeps.fill {S : Nat → Prop} {g : Nat} (hg : S g) {w : World} : ∀ (m o : Nat) {w' : World}, Keeps S w w' → Keeps S w (w'.setCells g o (List.replicate m (.int .i64 0)))
  | 0, o, w', h => h
  | m + 1, o, w', h => Keeps.fill hg m (o + 1) (h.set (p := ⟨g, o, none⟩) hg _)

/-- Of the first m places' numbers those that stay lie ahead; behind them all is as it was. -/
structure Moved (x y : Nat → Int) (n m k : Nat) : Prop where
  len : (dd x m).length = k
  lt : k < m
  low : ∀ j, j < k → y j = (dd x m).getD j 0
  high : ∀ j, k ≤ j → j < n → y j = x j
theorem Moved.old {x y : Nat → Int} {n m k : Nat} (h : Moved x y n m k) (hm : 0 < m) (e : x m = x (m - 1)) : Moved x y n (m + 1) k := by
  obtain ⟨h1, h2, h3, h4⟩ := h
  exact ⟨by rw [dd_old hm e]; exact h1, by omega, by rw [dd_old hm e]; exact h3, h4⟩
theorem Moved.new {x y : Nat → Int} {n m k : Nat} (h : Moved x y n m k) (e : x m ≠ x (m - 1)) : Moved x (fun j => if j = k then x m else y j) n (m + 1) (k + 1) := by
  obtain ⟨h1, h2, h3, h4⟩ := h
  refine ⟨by rw [dd_new (.inr e)]; simp [h1], by omega, fun j hj => ?_, fun j h5 h6 => ?_⟩
  · rw [dd_new (.inr e)]
    by_cases e2 : j = k
    · rw [if_pos e2, e2]
      simp [List.getD, ← h1]
    · rw [if_neg e2, h3 j (by omega)]
      simp [List.getD, List.getElem?_append_left (show j < (dd x m).length by omega)]
  · rw [if_neg (by omega)]
    exact h4 j (by omega) h6

/-- What Compact leaves. -/
def Compacted (g n : Nat) (x : Nat → Int) (w : World) (e : Ending) (w' : World) : Prop :=
  e = .returned (.slice (some ⟨g, 0, none⟩) (dd x n).length n) ∧ ∃ y, Cells w' g n y ∧ (∀ j, j < (dd x n).length → y j = (dd x n).getD j 0) ∧ Keeps (· = g) w w'
theorem Compacted.same {g n : Nat} {x : Nat → Int} {w w' : World} (h : ∀ j, 0 < j → j < n → x j ≠ x (j - 1)) (hX : Cells w' g n x) (hK : Keeps (· = g) w w') : Compacted g n x w (.returned (.slice (some ⟨g, 0, none⟩) n n)) w' := by
  obtain ⟨h1, h2⟩ := dd_all h
  exact ⟨by rw [h1], x, hX, by rw [h1]; exact h2, hK⟩

set_option maxRecDepth 100000 in
set_option maxHeartbeats 4000000 in
theorem compact_any (g n : Nat) (x : Nat → Int) (w : World) (hX : Cells w g n x) (hn : n ≤ 12) :
    Calls Try.prog 63 #[.slice (some ⟨g, 0, none⟩) n n] w (Compacted g n x w) := by
  have HX := Lib.hid hX
  clear hX
  go_enter Try.func63, Try.ntmps63
  by_cases h2 : n < 2
  · go_wp2
    go_ret
    exact Compacted.same (fun j h0 hj => by omega) HX.out (Keeps.refl _ _)
  · go_wp2
    go_loopw [3] (fun v wr => ∃ k : Nat, v = .int .i64 k ∧ 1 ≤ k ∧ k ≤ n ∧ (∀ j, 0 < j → j < k → x j ≠ x (j - 1)) ∧ Cells wr g n x ∧ Keeps (· = g) w wr) (fun v _ => n - (intOf v).toNat)
    case atStart => exact ⟨1, rfl, Nat.le_refl _, by omega, fun j h0 hj => by omega, HX.out, Keeps.refl _ _⟩
    case round =>
      clear HX
      obtain ⟨k, rfl, hk1, hk, hall, hX, hK⟩ := hrel
      have HA := Lib.hid hall
      have HX := Lib.hid hX
      have HK := Lib.hid hK
      clear hall hK
      by_cases hlt : k < n
      · obtain ⟨c1, f1⟩ := hX.at_ hlt
        obtain ⟨c0, f0⟩ := hX.at_ (j := k - 1) (by omega)
        clear hX
        generalize hp : x k = p at c1
        generalize hr : x (k - 1) = r at c0
        have HP := Lib.hid hp
        have HR := Lib.hid hr
        clear hp hr
        by_cases hdup : p = r
        · subst hdup
          go_wp2_with fail
          go_region
          go_wp2
          clear c0 c1 f0 f1
          have M0 : Moved x x n (k + 1) k := by
            obtain ⟨h1, h3⟩ := dd_all HA.out
            have e : x k = x (k - 1) := by rw [HP.out, HR.out]
            exact ⟨by rw [dd_old (by omega) e]; exact h1, by omega, by rw [dd_old (by omega) e]; exact h3, fun _ _ _ => rfl⟩
          have HM0 := Lib.hid M0
          clear M0
          go_loopw [3, 5] (fun v3 v5 wr2 => ∃ kk k2 : Nat, v3 = .int .i64 kk ∧ v5 = .int .i64 k2 ∧ 1 ≤ k2 ∧ k + k2 ≤ n ∧ ∃ y, Moved x y n (k + k2) kk ∧ Cells wr2 g n y ∧ Keeps (· = g) w wr2) (fun _ v5 _ => n - (intOf v5).toNat)
          case atStart => exact ⟨k, 1, rfl, rfl, Nat.le_refl _, by omega, x, HM0.out, HX.out.drewN _, HK.out.drewN _⟩
          case round =>
            clear HX HK HM0
            obtain ⟨kk, k2, rfl, rfl, h1, hle, y, hM, hY, hK⟩ := hrel
            have hkk := hM.lt
            have HM := Lib.hid hM
            have HY := Lib.hid hY
            have HK := Lib.hid hK
            clear hK
            by_cases hlt2 : k + k2 < n
            · obtain ⟨cm, _⟩ := hY.at_ (j := k + k2) (by omega)
              obtain ⟨cp, _⟩ := hY.at_ (j := k + (k2 - 1)) (by omega)
              obtain ⟨ck, fk⟩ := hY.at_ (j := kk) (by omega)
              rw [hM.high (k + k2) (by omega) (by omega)] at cm
              rw [hM.high (k + (k2 - 1)) (by omega) (by omega)] at cp
              clear hY hM
              generalize hu : x (k + k2) = u at cm
              generalize hv : x (k + (k2 - 1)) = v at cp
              generalize y kk = old at ck
              have HU := Lib.hid hu
              have HV := Lib.hid (show x (k + k2 - 1) = v by rw [← hv]; congr 1; omega)
              clear hu hv
              by_cases huv : u = v
              · subst huv
                go_wp2_with fail
                go_region
                go_wp2
                go_roundw
                case measure => simp [intOf]; omega
                case rel => exact ⟨kk, k2 + 1, by first | rfl | trivial, by go_num, by omega, by omega, y, HM.out.old (by omega) (by rw [HU.out, HV.out]), HY.out.drewN _, HK.out.drewN _⟩
              · go_wp2_with fail
                go_region
                go_wp2
                go_roundw
                case measure => simp [intOf]; omega
                case rel =>
                  refine ⟨kk + 1, k2 + 1, by go_num, by go_num, by omega, by omega, _, HM.out.new (by rw [HU.out, HV.out]; exact huv), ?_, ?_⟩
                  · rw [HU.out]
                    first
                      | exact ((HY.out.set kk u).drewN 1)
                      | exact (HY.out.drewN _).set kk u
                  · first
                      | exact ((HK.out.set (p := ⟨g, kk, none⟩) rfl _).drewN 1)
                      | exact (HK.out.drewN _).set (p := ⟨g, kk, none⟩) rfl _
            · have hend : k + k2 = n := by omega
              have hcl : ∀ ty, (Builtin.clear_ #[25] ty #[.slice (some ⟨g, kk, none⟩) (n - kk) (n - kk)]).run Try.prog wr = .ok (.tuple #[]) (wr.setCells g kk (List.replicate (n - kk) (.int .i64 0))) :=
                fun ty => Lib.run_clear_slice wr _ _ ty _ Try.underlying25 (fun w => by simp [go_sem]) rfl rfl g kk _ _ (by omega) (fun j hj => by rw [(hY.at_ (j := kk + j) (by omega)).1]; rfl) (fun j hj => (hY.at_ (j := kk + j) (by omega)).2)
              clear hY hM
              go_wp2
              go_ret
              obtain ⟨z, hz, ez⟩ := Cells.fill (n - kk) kk HY.out
              have hl := HM.out.len
              have hlow := HM.out.low
              rw [hend] at hl hlow
              exact ⟨by rw [hl]; rfl, z, hz, by rw [hl]; exact fun j hj => (ez j hj).trans (hlow j hj), Keeps.fill (S := (· = g)) rfl _ _ HK.out⟩
        · go_wp2_with fail
          go_region
          go_wp2
          go_roundw
          case measure => simp [intOf]; omega
          case rel =>
            refine ⟨k + 1, by go_num, by omega, by omega, fun j h0 hj => ?_, HX.out.drewN _, HK.out.drewN _⟩
            by_cases e : j = k
            · rw [e, HP.out, HR.out]; exact hdup
            · exact HA.out j h0 (by omega)
      · obtain rfl : k = n := by omega
        clear hX
        go_wp2
        go_ret
        exact Compacted.same HA.out HX.out HK.out
end Go.Proofs.Ytmbblhnagohlhaa
