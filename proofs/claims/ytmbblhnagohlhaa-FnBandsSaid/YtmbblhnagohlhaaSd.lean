/-
  Rising: the program's sorted list without repeats is the list of those bands that some pod has.
-/
import Derived.Test.YtmbblhnagohlhaaSb
import Derived.Test.YtmbblhnagohlhaaSc
import Derived.Test.YtmbblhnagohlhaaPmA
set_option linter.unusedVariables false
namespace Go.Proofs.Ytmbblhnagohlhaa
open Go.RowKit Go.Sort Go.Lib

theorem rise_unique : ∀ {L M : List Int}, L.Pairwise (· < ·) → M.Pairwise (· < ·) → (∀ x, x ∈ L ↔ x ∈ M) → L = M
  | [], [], _, _, _ => rfl
  | [], b :: M, _, _, h => by have := (h b).2 (by simp); cases this
  | a :: L, [], _, _, h => by have := (h a).1 (by simp); cases this
  | a :: L, b :: M, hL, hM, h => by
    have hL' := List.pairwise_cons.1 hL
    have hM' := List.pairwise_cons.1 hM
    have hab : a = b := by
      have h1 := (h a).1 (by simp)
      have h2 := (h b).2 (by simp)
      rcases List.mem_cons.1 h1 with e | e
      · exact e
      · rcases List.mem_cons.1 h2 with e2 | e2
        · exact e2.symm
        · have := hM'.1 a e
          have := hL'.1 b e2
          omega
    subst hab
    congr 1
    refine rise_unique hL'.2 hM'.2 fun x => ⟨fun hx => ?_, fun hx => ?_⟩
    · have := hL'.1 x hx
      rcases List.mem_cons.1 ((h x).1 (by simp [hx])) with e | e
      · omega
      · exact e
    · have := hM'.1 x hx
      rcases List.mem_cons.1 ((h x).2 (by simp [hx])) with e | e
      · omega
      · exact e

theorem compact_mem {s : Array Int} {m : Nat} {x : Int} : x ∈ compactUpTo s m ↔ ∃ j, j < m ∧ s[j]! = x := by
  induction m with
  | zero => simp [compactUpTo]
  | succ m ih =>
    rw [compactUpTo_succ, List.mem_append, ih]
    cases hk : keeps s m
    · simp only [Bool.false_eq_true, if_false, List.not_mem_nil, or_false]
      refine ⟨fun ⟨j, hj, e⟩ => ⟨j, by omega, e⟩, fun ⟨j, hj, e⟩ => ?_⟩
      by_cases e2 : j = m
      · subst e2
        simp only [keeps, decide_eq_false_iff_not, not_or, Decidable.not_not] at hk
        exact ⟨j - 1, by omega, by rw [← hk.2]; exact e⟩
      · exact ⟨j, by omega, e⟩
    · simp only [if_true, List.mem_singleton]
      refine ⟨?_, fun ⟨j, hj, e⟩ => ?_⟩
      · rintro (⟨j, hj, e⟩ | e)
        · exact ⟨j, by omega, e⟩
        · exact ⟨m, by omega, e.symm⟩
      · by_cases e2 : j = m
        · subst e2; exact .inr e.symm
        · exact .inl ⟨j, by omega, e⟩
theorem compact_rise {s : Array Int} (hs : SortedIn ltInt 0 s.size s) {m : Nat} (hm : m ≤ s.size) : (compactUpTo s m).Pairwise (· < ·) := by
  have le : ∀ i j, i ≤ j → j < s.size → s[i]! ≤ s[j]! := fun i j hij hj => by
    by_cases e : i = j
    · subst e; exact Int.le_refl _
    · have := hs i j (Nat.zero_le _) (by omega) hj
      simp only [ltInt, decide_eq_false_iff_not] at this
      omega
  induction m with
  | zero => simp [compactUpTo]
  | succ m ih =>
    rw [compactUpTo_succ]
    cases hk : keeps s m
    · simpa using ih (by omega)
    · rw [if_pos rfl, List.pairwise_append]
      refine ⟨ih (by omega), List.pairwise_singleton _ _, fun a ha b hb => ?_⟩
      obtain rfl := List.mem_singleton.1 hb
      obtain ⟨j, hj, rfl⟩ := compact_mem.1 ha
      simp only [keeps, decide_eq_true_eq] at hk
      rcases hk with h0 | h1
      · omega
      · have h2 := le j (m - 1) (by omega) (by omega)
        have h3 := le (m - 1) m (by omega) (by omega)
        omega

/-- What the program makes of a list: sorted, without repeats. -/
def risingL (d : Array Int) : List Int := compactUpTo (Sort.insertionSort ltInt d 0 d.size) d.size
theorem sorted_facts (d : Array Int) : (Sort.insertionSort ltInt d 0 d.size).size = d.size ∧ SortedIn ltInt 0 d.size (Sort.insertionSort ltInt d 0 d.size) ∧ (Sort.insertionSort ltInt d 0 d.size).toList.Perm d.toList := by
  obtain ⟨⟨h1, h2, h3⟩, h4⟩ := insertionSort_holds swo_ltInt d 0 d.size (Nat.zero_le _) (Nat.le_refl _)
  refine ⟨h1, h4, ?_⟩
  have e1 : (Sort.insertionSort ltInt d 0 d.size).extract 0 d.size = Sort.insertionSort ltInt d 0 d.size := by
    have := Array.extract_size (xs := Sort.insertionSort ltInt d 0 d.size)
    rwa [h1] at this
  have e2 : d.extract 0 d.size = d := by simp
  rwa [e1, e2] at h3
theorem at_mem {d : Array Int} {x : Int} : (∃ j, j < d.size ∧ d[j]! = x) ↔ x ∈ d.toList := by
  rw [List.mem_iff_getElem]
  constructor
  · rintro ⟨j, hj, rfl⟩
    exact ⟨j, by simpa using hj, by simp [getElem!_pos, hj]⟩
  · rintro ⟨j, hj, rfl⟩
    have hj' : j < d.size := by simpa using hj
    exact ⟨j, hj', by simp [getElem!_pos, hj']⟩
theorem risingL_mem {d : Array Int} {x : Int} : x ∈ risingL d ↔ x ∈ d.toList := by
  obtain ⟨h1, _, h3⟩ := sorted_facts d
  refine Iff.trans ?_ h3.mem_iff
  rw [← at_mem (d := Sort.insertionSort ltInt d 0 d.size), h1]
  exact compact_mem
theorem risingL_rise (d : Array Int) : (risingL d).Pairwise (· < ·) := by
  obtain ⟨h1, h2, _⟩ := sorted_facts d
  exact compact_rise (by rw [h1]; exact h2) (by rw [h1]; exact Nat.le_refl _)
theorem risingL_le (d : Array Int) : (risingL d).length ≤ d.size := by
  unfold risingL compactUpTo
  have := List.length_filter_le (keeps (Sort.insertionSort ltInt d 0 d.size)) (List.range d.size)
  simpa using this

/-- All pods' bands, in the pods' order. -/
def bandA (d : PlanD) : Array Int := ((List.range d.n0).map fun i => d.x0 (i * 4 + 1)).toArray
theorem bandA_size (d : PlanD) : (bandA d).size = d.n0 := by simp [bandA]
theorem picks_mem_iff {n : Nat} {p : Nat → Bool} {x : Int} : x ∈ picks n p ↔ ∃ i : Nat, i < n ∧ x = i ∧ p i = true := by
  refine ⟨picks_mem, ?_⟩
  rintro ⟨i, h1, rfl, h2⟩
  simp only [picks, List.mem_map, List.mem_filter, List.mem_range]
  exact ⟨i, ⟨h1, h2⟩, rfl⟩
theorem rising_bands {d : PlanD} (h : planOkB d = true) : risingL (bandA d) = bandsL d := by
  refine rise_unique (risingL_rise _) (bandsL_rise d) fun x => ?_
  rw [risingL_mem]
  unfold bandsL
  rw [picks_mem_iff]
  simp only [bandA, List.mem_map, List.mem_range]
  constructor
  · rintro ⟨i, hi, rfl⟩
    have hb := planOk_band h hi
    refine ⟨(d.x0 (i * 4 + 1)).toNat, by omega, by omega, ?_⟩
    simp only [hasB, decide_eq_true_eq]
    unfold podsL
    rw [found_yes h]
    refine List.length_pos_of_mem (a := (i : Int)) ?_
    rw [hits_picks, picks_mem_iff]
    exact ⟨i, hi, rfl, by simp; omega⟩
  · rintro ⟨b, hb, rfl, hp⟩
    simp only [hasB, decide_eq_true_eq] at hp
    obtain ⟨y, hy⟩ := List.exists_mem_of_length_pos hp
    obtain ⟨i, hi, _, e⟩ := podsL_mem hy
    exact ⟨i, hi, e⟩
theorem bandsL_no {d : PlanD} (h : planOkB d = false) : bandsL d = [] := by
  refine List.eq_nil_iff_forall_not_mem.2 fun x hx => ?_
  obtain ⟨i, _, _, hp⟩ := picks_mem hx
  simp only [hasB, decide_eq_true_eq] at hp
  unfold podsL at hp
  rw [found_no h] at hp
  exact absurd hp (by decide)

theorem put_facts {w w1 : World} {g n t : Nat} {cur : Array Value} {s : Array Int} (hh : w.heap[g]? = some (.cells cur t (0, 0))) (hw : w1 = putRow encI (Sort.ahead w n) g 0 s) :
    w1.heap[g]? = some (.cells (putCells encI 0 s cur) t (0, 0)) ∧ Keeps (· = g) w w1 := by
  subst hw
  refine ⟨?_, rfl, rfl, rfl, ?_, fun b hb hne => ?_⟩
  · have := heap_sortedI (os := #[]) (n := n) s hh
    rwa [grow_empty] at this
  · simp [putRow, mapBlock, Sort.ahead]
  · have : g ≠ b := fun e => hne e.symm
    simp [putRow, mapBlock, Sort.ahead, Array.getElem?_modify, this]
theorem put_take {cur : Array Value} {s : Array Int} (h : s.size ≤ cur.size) : (putCells encI 0 s cur).toList.take s.size = s.toList.map encI := by
  have := take_putCellsI cur s.toList (by simpa using h)
  simpa using this
theorem put_size (cur : Array Value) (s : Array Int) : (putCells encI 0 s cur).size = cur.size := by simp [putCells]

set_option maxRecDepth 100000 in
set_option maxHeartbeats 1000000 in
/-- The program's rising list, made in the list's own block. -/
theorem rising_any (g : Nat) (d : Array Int) (cur : Array Value) (w : World) (hn : d.size ≤ 12) (hh : w.heap[g]? = some (.cells cur 2 (0, 0))) (hs : cur.size = d.size) (ht : cur.toList = d.toList.map encI) :
    Calls Try.prog 34 #[.slice (some ⟨g, 0, none⟩) d.size d.size] w fun e w' =>
      ∃ v, e = .returned v ∧ w'.ownsRow g 2 1 v (risingL d).length ((risingL d).map (Value.int .i64)) ∧ Keeps (· = g) w w' := by
  have hH : Holds encI w g 0 d := by
    have := holds_of_blockI (ss := d.toList) hh (by rw [ht]; exact List.take_of_length_le (by simp))
    simpa using this
  obtain ⟨hz, -, -⟩ := sorted_facts d
  have HH := Lib.hid hH
  have HB := Lib.hid hh
  clear hH hh
  go_enter Try.func34, Try.ntmps34
  go_wp2_with fail
  refine (sort_any g 0 d.size d _ HH.out hn).mono ?_
  rintro e w1 ⟨rfl, n1, hw1⟩
  obtain ⟨hb1, K1⟩ := put_facts HB.out hw1
  have hH1 : Holds encI w1 g 0 (Sort.insertionSort ltInt d 0 d.size) := by
    have := holds_of_blockI (ss := (Sort.insertionSort ltInt d 0 d.size).toList) hb1 (by have := put_take (cur := cur) (s := Sort.insertionSort ltInt d 0 d.size) (by omega); simpa using this)
    simpa using this
  have HB1 := Lib.hid hb1
  have HH1 := Lib.hid hH1
  have HK1 := Lib.hid K1
  clear hb1 hH1 K1 hw1
  have hc : Calls Try.prog 63 #[.slice (some ⟨g, 0, none⟩) d.size d.size] w1 fun e w' => e = .returned (.slice (some ⟨g, 0, none⟩) (risingL d).length d.size) ∧
      ∃ q, w' = putRow encI (Sort.ahead w1 q) g 0 (risingL d ++ List.replicate (d.size - (risingL d).length) (0 : Int)).toArray := by
    have := compact_any g 0 d.size (Sort.insertionSort ltInt d 0 d.size) w1 HH1.out (by omega) (by omega)
    rw [hz] at this
    exact this
  go_wp2_with fail
  refine hc.mono ?_
  rintro e w2 ⟨rfl, n2, hw2⟩
  obtain ⟨hb2, K2⟩ := put_facts HB1.out hw2
  clear hw2 hc
  have hl := risingL_le d
  have HO : Hid (w2.ownsRow g 2 1 (.slice (some ⟨g, 0, none⟩) (risingL d).length d.size) (risingL d).length ((risingL d).map (Value.int .i64))) := by
    refine ⟨by simp, .inr ⟨g, d.size, _, rfl, Nat.le_refl _, hb2, hl, by unfold maxLen; omega, by rw [put_size, put_size, hs, Nat.mul_one], ?_⟩⟩
    rw [Nat.mul_one]
    have e := put_take (cur := putCells encI 0 (Sort.insertionSort ltInt d 0 d.size) cur) (s := (risingL d ++ List.replicate (d.size - (risingL d).length) (0 : Int)).toArray) (by rw [put_size]; simp <;> omega)
    have e2 := congrArg (List.take (risingL d).length) e
    rw [List.take_take] at e2
    have e3 : min (risingL d).length (risingL d ++ List.replicate (d.size - (risingL d).length) (0 : Int)).toArray.size = (risingL d).length := by simp
    rw [e3] at e2
    rw [e2]
    simp
  have HK := Lib.hid (HK1.out.trans K2)
  clear hb2 K2
  go_wp2_with fail
  go_ret
  exact ⟨_, rfl, HO.out, HK.out⟩
end Go.Proofs.Ytmbblhnagohlhaa
