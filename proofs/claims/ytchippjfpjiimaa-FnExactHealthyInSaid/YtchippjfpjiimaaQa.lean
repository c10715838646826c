/-
  Bands as lists and numbers: what chapter 2 asks, and what follows for a right plan.
-/
import Derived.Test.YtchippjfpjiimaaPjA
set_option linter.unusedVariables false
namespace Go.Proofs.Ytchippjfpjiimaa
open Go.RowKit

/-- The numbers below n at which p is true, rising. -/
def picks (n : Nat) (p : Nat → Bool) : List Int := ((List.range n).filter p).map (fun i : Nat => (i : Int))
theorem picks_zero (p : Nat → Bool) : picks 0 p = [] := rfl
theorem picks_yes {n : Nat} {p : Nat → Bool} (h : p n = true) : picks (n + 1) p = picks n p ++ [(n : Int)] := by
  simp [picks, List.range_succ, List.filter_append, h]
theorem picks_no {n : Nat} {p : Nat → Bool} (h : p n = false) : picks (n + 1) p = picks n p := by
  simp [picks, List.range_succ, List.filter_append, h]
theorem picks_le (n : Nat) (p : Nat → Bool) : (picks n p).length ≤ n := by
  have := List.length_filter_le p (List.range n)
  simpa [picks] using this
theorem picks_mem {n : Nat} {p : Nat → Bool} {x : Int} (h : x ∈ picks n p) : ∃ i : Nat, i < n ∧ x = i ∧ p i = true := by
  simp only [picks, List.mem_map, List.mem_filter, List.mem_range] at h
  obtain ⟨i, ⟨h1, h2⟩, h3⟩ := h
  exact ⟨i, h1, h3.symm, h2⟩
theorem picks_rise (n : Nat) (p : Nat → Bool) : (picks n p).Pairwise (· < ·) := by
  unfold picks
  rw [List.pairwise_map]
  exact ((List.pairwise_lt_range (n := n)).sublist List.filter_sublist).imp fun h => by omega
theorem hits_picks (n : Nat) (f : Nat → Int) (x : Int) : hits n f x = picks n (fun i => f i == x) := rfl

def podsL (d : PlanD) (b : Int) : List Int := found d d.n0 (fun i => d.x0 (i * 4 + 1)) b
theorem podsL_le (d : PlanD) (b : Int) : (podsL d b).length ≤ d.n0 := by
  unfold podsL found
  split
  · exact hits_le _ _ _
  · exact Nat.zero_le _
def hasB (d : PlanD) (b : Nat) : Bool := decide (0 < (podsL d b).length)
def bandsL (d : PlanD) : List Int := picks 6 (hasB d)
theorem bandsL_le (d : PlanD) : (bandsL d).length ≤ 6 := picks_le _ _
def firstOver (l : List Int) (b : Int) : Int := (l.find? (fun x => decide (b < x))).getD (-1)
def nextL (d : PlanD) (b : Int) : Int := firstOver (bandsL d) b
def timeOf (d : PlanD) (i : Nat) : Int := d.x0 (i * 4 + 3) + d.x0 (i * 4 + 2) + 4
def most (d : PlanD) (l : List Int) : Int := l.foldl (fun n i => max n (timeOf d i.toNat)) 0
def bandT (d : PlanD) (b : Int) : Int := if planOkB d then most d (podsL d b) else -1
def sumB : Nat → (Nat → Int) → Int
  | 0, _ => 0
  | k + 1, f => sumB k f + f k
def wholeT (d : PlanD) : Int := if planOkB d then d.l + 6 * (d.n2 + d.n3 : Int) + 4 + sumB 6 (fun b => bandT d b) else -1

theorem firstOver_none {l : List Int} {b : Int} (h : ∀ x ∈ l, x ≤ b) : firstOver l b = -1 := by
  unfold firstOver
  rw [List.find?_eq_none.2 (fun x hx => by have := h x hx; simp; omega)]
  rfl
theorem firstOver_at {l : List Int} {b : Int} {i : Nat} (hi : i < l.length) (h : ∀ j (hj : j < i), l[j]'(by omega) ≤ b) (hb : b < l[i]) : firstOver l b = l[i] := by
  unfold firstOver
  have e : l.find? (fun x => decide (b < x)) = some l[i] := by
    rw [List.find?_eq_some_iff_getElem]
    exact ⟨by simpa using hb, i, hi, rfl, fun j hj => by have := h j hj; simp; omega⟩
  rw [e]
  rfl

/-- The number ahead of the i-th, -1 ahead of the first. -/
def ahead (l : List Int) (i : Nat) : Int := if i = 0 then -1 else l.getD (i - 1) 0
theorem ahead_succ (l : List Int) (i : Nat) : ahead l (i + 1) = l.getD i 0 := by simp [ahead]
theorem firstOver_ahead {l : List Int} (hp : l.Pairwise (· < ·)) (h0 : ∀ x ∈ l, 0 ≤ x) {i : Nat} (hi : i < l.length) : firstOver l (ahead l i) = l.getD i 0 := by
  have hlt := List.pairwise_iff_getElem.1 hp
  have hg : l.getD i 0 = l[i] := by simp [List.getD, hi]
  rw [hg]
  by_cases e : i = 0
  · subst e
    exact firstOver_at hi (fun j hj => absurd hj (by omega)) (by have := h0 _ (List.getElem_mem hi); simp [ahead]; omega)
  · have ha : ahead l i = l[i - 1]'(by omega) := by simp only [ahead, if_neg e]; simp [List.getD, show i - 1 < l.length by omega]
    rw [ha]
    refine firstOver_at hi (fun j hj => ?_) (hlt _ _ (by omega) hi (by omega))
    by_cases e2 : j = i - 1
    · subst e2; exact Int.le_refl _
    · exact Int.le_of_lt (hlt j (i - 1) (by omega) (by omega) (by omega))
theorem firstOver_end {l : List Int} (hp : l.Pairwise (· < ·)) : firstOver l (ahead l l.length) = -1 := by
  have hlt := List.pairwise_iff_getElem.1 hp
  refine firstOver_none fun x hx => ?_
  obtain ⟨j, hj, rfl⟩ := List.getElem_of_mem hx
  have e : l.length ≠ 0 := by omega
  have ha : ahead l l.length = l[l.length - 1]'(by omega) := by simp only [ahead, if_neg e]; simp [List.getD, show l.length - 1 < l.length by omega]
  rw [ha]
  by_cases e2 : j = l.length - 1
  · subst e2; exact Int.le_refl _
  · exact Int.le_of_lt (hlt j (l.length - 1) hj (by omega) (by omega))

/-- g of the first i, together. -/
def sumL (l : List Int) (g : Int → Int) (i : Nat) : Int := ((l.take i).map g).sum
theorem sumL_zero (l : List Int) (g : Int → Int) : sumL l g 0 = 0 := by simp [sumL]
theorem getD_at {l : List Int} {i : Nat} (hi : i < l.length) : l.getD i 0 = l[i] := by simp [List.getD, hi]
theorem sumL_succ {l : List Int} {g : Int → Int} {i : Nat} (hi : i < l.length) : sumL l g (i + 1) = sumL l g i + g (l.getD i 0) := by
  rw [sumL, List.take_add_one, List.getElem?_eq_getElem hi, Option.toList_some, List.map_append, List.sum_append, getD_at hi]
  simp [sumL]
theorem sumL_bound {l : List Int} {g : Int → Int} {lo hi : Int} (h : ∀ x, lo ≤ g x ∧ g x ≤ hi) (h0 : lo ≤ 0) (i : Nat) : i ≤ l.length → lo * i ≤ sumL l g i ∧ sumL l g i ≤ hi * i := by
  induction i with
  | zero => intro _; simp [sumL_zero]
  | succ i ih =>
    intro hl
    have := ih (by omega)
    rw [sumL_succ (by omega)]
    have := h (l.getD i 0)
    have e1 : lo * ((i + 1 : Nat) : Int) = lo * i + lo := by rw [Int.natCast_succ, Int.mul_add, Int.mul_one]
    have e2 : hi * ((i + 1 : Nat) : Int) = hi * i + hi := by rw [Int.natCast_succ, Int.mul_add, Int.mul_one]
    omega
theorem sumL_picks (k : Nat) (p : Nat → Bool) (g : Int → Int) (h0 : ∀ i : Nat, p i = false → g i = 0) : sumL (picks k p) g (picks k p).length = sumB k (fun i => g i) := by
  induction k with
  | zero => rfl
  | succ k ih =>
    simp only [sumL, List.take_length] at ih ⊢
    simp only [sumB]
    cases hp : p k
    · rw [picks_no hp, ih, h0 k hp, Int.add_zero]
    · rw [picks_yes hp, List.map_append, List.sum_append, ih]
      simp
theorem sumB_congr {k : Nat} {f g : Nat → Int} (h : ∀ i, i < k → f i = g i) : sumB k f = sumB k g := by
  induction k with
  | zero => rfl
  | succ k ih => simp only [sumB]; rw [ih fun i hi => h i (by omega), h k (by omega)]

theorem hits_len_succ (n : Nat) (f : Nat → Int) (b : Int) : (hits (n + 1) f b).length = (hits n f b).length + if f n = b then 1 else 0 := by
  cases h : (f n == b)
  · rw [hits_no h, if_neg (by simpa using h)]; rfl
  · rw [hits_yes h, if_pos (by simpa using h)]; simp
/-- Each of n has one of six bands. -/
theorem hits_all {n : Nat} {f : Nat → Int} : (∀ i, i < n → 0 ≤ f i ∧ f i ≤ 5) → sumB 6 (fun b => ((hits n f b).length : Int)) = n := by
  induction n with
  | zero => intro _; simp [sumB, hits_zero]
  | succ n ih =>
    intro h
    have h1 := ih fun i hi => h i (by omega)
    have hb := h n (by omega)
    simp only [sumB, hits_len_succ] at h1 ⊢
    have : f n = 0 ∨ f n = 1 ∨ f n = 2 ∨ f n = 3 ∨ f n = 4 ∨ f n = 5 := by omega
    rcases this with e | e | e | e | e | e <;> (rw [e]; simp at h1 ⊢; omega)

theorem planOk_pods {d : PlanD} (h : planOkB d = true) : ∀ i, i < d.n0 → podB d.n1 d.x0 i = true := by
  simp only [planOkB, Bool.and_eq_true] at h
  exact allB_true.1 h.1.1.1.2
theorem planOk_band {d : PlanD} (h : planOkB d = true) {i : Nat} (hi : i < d.n0) : 0 ≤ d.x0 (i * 4 + 1) ∧ d.x0 (i * 4 + 1) ≤ 5 := by
  have := planOk_pods h i hi
  simp only [podB, Bool.and_eq_true, inB_true] at this
  exact this.1.1.2
theorem planOk_time {d : PlanD} (h : planOkB d = true) {i : Nat} (hi : i < d.n0) : 4 ≤ timeOf d i ∧ timeOf d i ≤ 1004 := by
  have := planOk_pods h i hi
  simp only [podB, Bool.and_eq_true, inB_true] at this
  unfold timeOf
  omega
theorem planOk_lock {d : PlanD} (h : planOkB d = true) : 0 ≤ d.l ∧ d.l ≤ 500 ∧ d.n0 ≤ 12 ∧ d.n1 ≤ 4 ∧ d.n2 ≤ 12 ∧ d.n3 ≤ 12 := by
  simp only [planOkB, timesB, sizesB, Bool.and_eq_true, inB_true, decide_eq_true_eq] at h
  obtain ⟨⟨⟨⟨⟨h1, h2⟩, -⟩, -⟩, -⟩, -⟩ := h
  omega

theorem hits_mem {n : Nat} {f : Nat → Int} {b x : Int} (h : x ∈ hits n f b) : ∃ i : Nat, i < n ∧ x = i ∧ f i = b := by
  rw [hits_picks] at h
  obtain ⟨i, h1, h2, h3⟩ := picks_mem h
  exact ⟨i, h1, h2, by simpa using h3⟩
theorem podsL_mem {d : PlanD} {b x : Int} (h : x ∈ podsL d b) : ∃ i : Nat, i < d.n0 ∧ x = i ∧ d.x0 (i * 4 + 1) = b := by
  unfold podsL found at h
  split at h
  · exact hits_mem h
  · cases h
theorem podsL_at {d : PlanD} {b : Int} {j : Nat} (hj : j < (podsL d b).length) : ∃ i : Nat, i < d.n0 ∧ (podsL d b).getD j 0 = i ∧ d.x0 (i * 4 + 1) = b := by
  have e : (podsL d b).getD j 0 = (podsL d b)[j] := by simp [List.getD, hj]
  rw [e]
  exact podsL_mem (List.getElem_mem hj)

theorem foldl_bound {d : PlanD} (l : List Int) (a : Int) (h : ∀ x ∈ l, 4 ≤ timeOf d x.toNat ∧ timeOf d x.toNat ≤ 1004) (ha : 0 ≤ a ∧ a ≤ 1004) :
    0 ≤ l.foldl (fun n i => max n (timeOf d i.toNat)) a ∧ l.foldl (fun n i => max n (timeOf d i.toNat)) a ≤ 1004 := by
  induction l generalizing a with
  | nil => exact ha
  | cons x l ih =>
    have := h x (by simp)
    exact ih _ (fun y hy => h y (by simp [hy])) (by show 0 ≤ max a (timeOf d x.toNat) ∧ max a (timeOf d x.toNat) ≤ 1004; omega)
theorem most_bound {d : PlanD} (h : planOkB d = true) (b : Int) (k : Nat) : 0 ≤ most d ((podsL d b).take k) ∧ most d ((podsL d b).take k) ≤ 1004 := by
  refine foldl_bound _ 0 (fun x hx => ?_) (by omega)
  obtain ⟨i, hi, rfl, -⟩ := podsL_mem (List.mem_of_mem_take hx)
  exact planOk_time h (by simpa using hi)
theorem most_succ {d : PlanD} {l : List Int} {k : Nat} (hk : k < l.length) : most d (l.take (k + 1)) = max (most d (l.take k)) (timeOf d (l.getD k 0).toNat) := by
  rw [most, List.take_add_one, List.getElem?_eq_getElem hk, Option.toList_some, List.foldl_append, getD_at hk]
  rfl
theorem bandT_bound {d : PlanD} (h : planOkB d = true) (b : Int) : 0 ≤ bandT d b ∧ bandT d b ≤ 1004 := by
  have := most_bound h b (podsL d b).length
  rw [List.take_length] at this
  rw [bandT, if_pos h]
  exact this
theorem bandT_none {d : PlanD} (h : planOkB d = true) {b : Int} (h0 : ¬ 0 < (podsL d b).length) : bandT d b = 0 := by
  have e : podsL d b = [] := List.eq_nil_of_length_eq_zero (by omega)
  rw [bandT, if_pos h, e]
  rfl

theorem bandsL_rise (d : PlanD) : (bandsL d).Pairwise (· < ·) := picks_rise _ _
theorem bandsL_nonneg (d : PlanD) : ∀ x ∈ bandsL d, 0 ≤ x := fun x hx => by
  obtain ⟨i, -, rfl, -⟩ := picks_mem hx
  omega
theorem bands_next {d : PlanD} {i : Nat} (hi : i < (bandsL d).length) : nextL d (ahead (bandsL d) i) = (bandsL d).getD i 0 := firstOver_ahead (bandsL_rise d) (bandsL_nonneg d) hi
theorem bands_end (d : PlanD) : nextL d (ahead (bandsL d) (bandsL d).length) = -1 := firstOver_end (bandsL_rise d)
/-- All pods, band by band. -/
theorem bands_pods {d : PlanD} (h : planOkB d = true) : sumL (bandsL d) (fun b => ((podsL d b).length : Int)) (bandsL d).length = d.n0 := by
  refine (sumL_picks 6 (hasB d) (fun b => ((podsL d b).length : Int)) fun i hi => ?_).trans ?_
  · simp only [hasB, decide_eq_false_iff_not] at hi
    omega
  · refine Eq.trans ?_ (hits_all (f := fun i => d.x0 (i * 4 + 1)) fun i hi => planOk_band h hi)
    exact sumB_congr fun i _ => by show ((podsL d i).length : Int) = _; rw [podsL, found_yes h]
/-- The bands' times together are less than the whole one. -/
theorem bands_time {d : PlanD} (h : planOkB d = true) : sumL (bandsL d) (bandT d) (bandsL d).length < wholeT d := by
  have e := sumL_picks 6 (hasB d) (bandT d) fun i hi => bandT_none h (by simpa [hasB] using hi)
  have e2 : sumL (bandsL d) (bandT d) (bandsL d).length = sumB 6 (fun i => bandT d i) := e
  have := planOk_lock h
  rw [e2, wholeT, if_pos h]
  omega
end Go.Proofs.Ytchippjfpjiimaa
