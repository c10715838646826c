/-
  Rising: the program's sorted list without repeats is the list of those bands that some pod has.
-/
import Derived.Test.YtmbblhnagohlhaaSb
import Derived.Test.YtmbblhnagohlhaaSc
import Derived.Test.YtmbblhnagohlhaaPmA
set_option linter.unusedVariables false
namespace Go.Proofs.Ytmbblhnagohlhaa
open Go.RowKit

theorem rise_unique : ∀ {L M : List Int}, L.Pairwise (· < ·) → M.Pairwise (· < ·) → (∀ x, x ∈ L ↔ x ∈ M) → L = M
  | [], [], _, _, _ => rfl
  | [], b :: M, _, _, h => by have := (h b).2 (by simp); cases this
  | a :: L, [], _, _, h => by have := (h a).1 (by simp); cases this
  | a :: L, b :: M, hL, hM, h => by
    have hL' := List.pairwise_cons.1 hL
    have hM' := List.pairwise_cons.1 hM
    have hab : a = b := by
      have h1 := (h a).1 (by simp)
      have h2 := (h b).2 (by simp)
      rcases List.mem_cons.1 h1 with e | e
      · exact e
      · rcases List.mem_cons.1 h2 with e2 | e2
        · exact e2.symm
        · have := hM'.1 a e
          have := hL'.1 b e2
          omega
    subst hab
    congr 1
    refine rise_unique hL'.2 hM'.2 fun x => ⟨fun hx => ?_, fun hx => ?_⟩
    · have := hL'.1 x hx
      rcases List.mem_cons.1 ((h x).1 (by simp [hx])) with e | e
      · omega
      · exact e
    · have := hM'.1 x hx
      rcases List.mem_cons.1 ((h x).2 (by simp [hx])) with e | e
      · omega
      · exact e

theorem dd_mem {x : Nat → Int} {v : Int} : ∀ {m : Nat}, v ∈ dd x m ↔ ∃ j, j < m ∧ x j = v
  | 0 => by simp [dd]
  | m + 1 => by
    by_cases h : m = 0 ∨ x m ≠ x (m - 1)
    · rw [dd_new h, List.mem_append, dd_mem (m := m), List.mem_singleton]
      refine ⟨?_, fun ⟨j, hj, e⟩ => ?_⟩
      · rintro (⟨j, hj, e⟩ | e)
        · exact ⟨j, by omega, e⟩
        · exact ⟨m, by omega, e.symm⟩
      · by_cases e2 : j = m
        · subst e2; exact .inr e.symm
        · exact .inl ⟨j, by omega, e⟩
    · rw [dd_old (by omega) (by omega), dd_mem (m := m)]
      refine ⟨fun ⟨j, hj, e⟩ => ⟨j, by omega, e⟩, fun ⟨j, hj, e⟩ => ?_⟩
      by_cases e2 : j = m
      · subst e2
        exact ⟨j - 1, by omega, by rw [← e]; omega⟩
      · exact ⟨j, by omega, e⟩
theorem dd_rise {x : Nat → Int} {n : Nat} (h : Rises x n) : ∀ {m : Nat}, m ≤ n → (dd x m).Pairwise (· < ·)
  | 0, _ => List.Pairwise.nil
  | m + 1, hm => by
    have ih := dd_rise h (m := m) (by omega)
    by_cases hn : m = 0 ∨ x m ≠ x (m - 1)
    · rw [dd_new hn, List.pairwise_append]
      refine ⟨ih, List.pairwise_singleton _ _, fun a ha b hb => ?_⟩
      obtain rfl := List.mem_singleton.1 hb
      obtain ⟨j, hj, rfl⟩ := dd_mem.1 ha
      have h1 := h (m - 1) m (by omega) (by omega)
      by_cases e : j = m - 1
      · rw [e]; omega
      · have h2 := h j (m - 1) (by omega) (by omega)
        omega
    · rw [dd_old (by omega) (by omega)]
      exact ih

theorem picks_mem_iff {n : Nat} {p : Nat → Bool} {x : Int} : x ∈ picks n p ↔ ∃ i : Nat, i < n ∧ x = i ∧ p i = true := by
  refine ⟨picks_mem, ?_⟩
  rintro ⟨i, h1, rfl, h2⟩
  simp only [picks, List.mem_map, List.mem_filter, List.mem_range]
  exact ⟨i, ⟨h1, h2⟩, rfl⟩
/-- Numbers that rise, made of the pods' bands, without repeats: the chapter's list. -/
theorem rising_bands {d : PlanD} (h : planOkB d = true) {y : Nat → Int} (hS : Same d.n0 (fun i => d.x0 (i * 4 + 1)) y) (hR : Rises y d.n0) : dd y d.n0 = bandsL d := by
  refine rise_unique (dd_rise hR (Nat.le_refl _)) (bandsL_rise d) fun v => ?_
  rw [dd_mem]
  unfold bandsL
  rw [picks_mem_iff]
  constructor
  · rintro ⟨k, hk, rfl⟩
    obtain ⟨i, hi, e⟩ := hS.back k hk
    have hb := planOk_band h hi
    have e : y k = d.x0 (i * 4 + 1) := e
    rw [e]
    refine ⟨(d.x0 (i * 4 + 1)).toNat, by omega, by omega, ?_⟩
    simp only [hasB, decide_eq_true_eq]
    unfold podsL
    rw [found_yes h]
    refine List.length_pos_of_mem (a := (i : Int)) ?_
    rw [hits_picks, picks_mem_iff]
    exact ⟨i, hi, rfl, by simp; omega⟩
  · rintro ⟨b, hb, rfl, hp⟩
    simp only [hasB, decide_eq_true_eq] at hp
    obtain ⟨v, hv⟩ := List.exists_mem_of_length_pos hp
    obtain ⟨i, hi, _, e⟩ := podsL_mem hv
    obtain ⟨k, hk, ek⟩ := hS.there i hi
    exact ⟨k, hk, ek.trans e⟩
theorem bandsL_no {d : PlanD} (h : planOkB d = false) : bandsL d = [] := by
  refine List.eq_nil_iff_forall_not_mem.2 fun x hx => ?_
  obtain ⟨i, _, _, hp⟩ := picks_mem hx
  simp only [hasB, decide_eq_true_eq] at hp
  unfold podsL at hp
  rw [found_no h] at hp
  exact absurd hp (by decide)

theorem Cells.owns {w : World} {g n : Nat} {y : Nat → Int} {L : List Int} (h : Cells w g n y) (hn : n ≤ 12) (hl : L.length ≤ n) (hL : ∀ j, j < L.length → y j = L.getD j 0) :
    w.ownsRow g 2 1 (.slice (some ⟨g, 0, none⟩) L.length n) L.length (L.map (Value.int .i64)) := by
  obtain ⟨cur, hh, hs, hc⟩ := h
  refine ⟨by simp, .inr ⟨g, n, cur, rfl, Nat.le_refl _, hh, hl, by unfold maxLen; omega, by omega, ?_⟩⟩
  rw [Nat.mul_one]
  refine List.ext_getElem? fun j => ?_
  by_cases hj : j < L.length
  · rw [List.getElem?_take_of_lt hj, Array.getElem?_toList, hc j (by omega), hL j hj]
    simp [List.getD, hj]
  · rw [List.getElem?_take_eq_none (by omega), List.getElem?_eq_none (by simp; omega)]

set_option maxRecDepth 100000 in
set_option maxHeartbeats 1000000 in
/-- The program's rising list, made in the list's own block. -/
theorem rising_any (d : PlanD) (g : Nat) (w : World) (hq : planOkB d = true) (hX : Cells w g d.n0 (fun i => d.x0 (i * 4 + 1))) :
    Calls Try.prog 34 #[.slice (some ⟨g, 0, none⟩) d.n0 d.n0] w fun e w' =>
      ∃ v, e = .returned v ∧ w'.ownsRow g 2 1 v (bandsL d).length ((bandsL d).map (Value.int .i64)) ∧ Keeps (· = g) w w' := by
  have hn := (planOk_lock hq).2.2.1
  have HQ := Lib.hid hq
  have HX := Lib.hid hX
  clear hq hX
  go_enter Try.func34, Try.ntmps34
  go_wp2_with fail
  refine (sort_any g d.n0 _ _ HX.out hn).mono ?_
  rintro e w1 ⟨rfl, y, hY, hS, hR, hK⟩
  have hb := rising_bands HQ.out hS hR
  have hc := compact_any g d.n0 y w1 hY hn
  unfold Compacted at hc
  have hle := dd_le y d.n0
  rw [hb] at hc hle
  have HC := Lib.hid hc
  have HK := Lib.hid hK
  clear hb hc hY hS hR hK
  go_wp2_with fail
  refine HC.out.mono ?_
  rintro e w2 ⟨rfl, z, hZ, hz, hK2⟩
  have HO := Lib.hid (hZ.owns hn hle hz)
  have HK2 := Lib.hid (HK.out.trans hK2)
  clear hZ hz hK2
  go_wp2_with fail
  go_ret
  exact ⟨_, rfl, HO.out, HK2.out⟩
end Go.Proofs.Ytmbblhnagohlhaa
