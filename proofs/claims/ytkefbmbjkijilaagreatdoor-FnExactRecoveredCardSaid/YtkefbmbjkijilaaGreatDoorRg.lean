/-
  The program's slices.Concat of lists of records (slices.Grow of nothing).
-/
import Derived.Test.YtkefbmbjkijilaaGreatDoorMZ19
import Derived.Lib.AppendZerosOnto
set_option linter.unusedVariables false
namespace Go.Proofs.YtkefbmbjkijilaaGreatDoor
open Go.RowKit

theorem info_recG : (Tryz.prog.info? 96).map (fun i => (i.zero, i.size, i.bytes)) = some (some (.agg #[.int .i64 0, .int .i64 0, .int .i64 0]), 3, 24) := by kernel_rfl
set_option maxRecDepth 100000 in
set_option maxHeartbeats 4000000 in
theorem grow_nil (n : Nat) (w : World) (hn : n ≤ 1000000) :
    Calls Tryz.prog 105 #[.slice none 0 0, .int .i64 n] w fun e w' => ∃ v, e = .returned v ∧ OR w' w.heap.size v [] ∧ Below w.heap.size w w' := by
  obtain ⟨i0, hi, hz0, hz1, hz2⟩ := info_parts info_recG
  by_cases h0 : 0 < n
  · obtain ⟨G, hG⟩ : ∃ G, G = grownCap w n 0 96 := ⟨_, rfl⟩
    obtain ⟨R, hR⟩ : ∃ R : Array Value, R = Builtin.zeroCells (Value.agg #[.int .i64 0, .int .i64 0, .int .i64 0]).cells n ++ Builtin.zeroCells (Value.agg #[.int .i64 0, .int .i64 0, .int .i64 0]).cells (G - n) := ⟨_, rfl⟩
    have hrz : ∀ ty, (Builtin.append_ #[93, 3] ty #[.slice none 0 0, .int .i64 (n : Int)]).run Tryz.prog w = .ok (.slice (some ⟨w.heap.size, 0, none⟩) n G) (w.drew.alloc (.cells R 96)) := fun ty => by
      have h := Lib.run_append_nil_zeros w 93 3 ty 96 i0 _ .i64 .i64 (by kernel_rfl) (by kernel_rfl) hi hz0 n h0 (by rw [hz1]; decide) (by omega) (by rw [hz2]; omega)
      rw [← hG, ← hR] at h
      exact h
    have hGn : n ≤ G := by rw [hG]; exact grownCap_ge w _ _ _
    have hGm : G ≤ maxLen := by rw [hG]; exact grownCap_le_maxLen w n 0 _ (by unfold maxLen; omega)
    have hRs : R.size = G * 3 := by
      rw [hR]
      simp [Builtin.zeroCells, Value.cells]
      omega
    obtain ⟨W1, hW1⟩ : ∃ W1, W1 = w.drew.alloc (.cells R 96) := ⟨_, rfl⟩
    rw [← hW1] at hrz
    have hR1 : W1.heap[w.heap.size]? = some (.cells R 96) := by rw [hW1]; exact heap_alloc_new w.drew _
    have hb1 : Below w.heap.size w W1 := by rw [hW1]; exact (Below.refl w.heap.size w).drew.alloc (Nat.le_refl _) _
    have HO : Hid (OR W1 w.heap.size (.slice (some ⟨w.heap.size, 0, none⟩) 0 G) []) := Lib.hid ⟨by rfl, .inr ⟨w.heap.size, G, R, rfl, Nat.le_refl _, hR1, Nat.zero_le _, hGm, hRs, by simp [recVs, flat]⟩⟩
    have i1 : (n : Int) ≤ 1000000 := by omega
    have i2 : (0 : Int) < n := by omega
    have i3 : ¬ G = 0 := by omega
    clear hR hG hR1 hW1 hRs hi hz0 hz1 hz2 hGm
    go_enter Tryz.func105, Tryz.ntmps105
    go_wp2_with
      (at_builtin
       refine Lib.wpList_append_run _ rfl _ _ 93 3 rfl _ _ rfl rfl _ _ (hrz _) ?_)
    all_goals
      go_ret
      exact ⟨_, rfl, HO.out, hb1⟩
  · obtain rfl : n = 0 := by omega
    clear hi hz0 hz1 hz2
    go_enter Tryz.func105, Tryz.ntmps105
    go_wp2
    all_goals
      go_ret
      exact ⟨_, rfl, OR.nil_ _ _, Below.refl _ _⟩

theorem flat_take_next {ls : List (List RecD)} {k : Nat} (hk : k < ls.length) : (ls.take (k + 1)).flatten = (ls.take k).flatten ++ listAt ls k := by
  have h2 : listAt ls k = ls[k] := by simp [listAt, List.getD, hk]
  have h3 : ls.take (k + 1) = ls.take k ++ [ls[k]] := by simp
  rw [h3, List.flatten_append, h2]
  congr 1
  simp
theorem flat_take_le (ls : List (List RecD)) (k : Nat) : (ls.take k).flatten.length ≤ ls.flatten.length := by
  have h : ls.flatten = (ls.take k).flatten ++ (ls.drop k).flatten := by rw [← List.flatten_append, List.take_append_drop]
  rw [h, List.length_append]
  omega
set_option maxRecDepth 100000 in
set_option maxHeartbeats 8000000 in
theorem concat_any (v : Value) (B : Nat) (ls : List (List RecD)) (w : World) (h : OS w B v ls) (hn : ls.flatten.length ≤ 1000000) :
    Calls Tryz.prog 58 #[v] w fun e w' => ∃ v', e = .returned v' ∧ OR w' w.heap.size v' ls.flatten ∧ Below w.heap.size w w' := by
  have hl0 : ls.length ≤ maxLen := h.len
  unfold maxLen at hl0
  obtain ⟨A, c, g, vs, rfl, hA, -, hg, hS, hC, -⟩ := h.open_
  have hat : Hid (∀ k, k < ls.length → ∃ b off u Au cu, A = some ⟨b, off, none⟩ ∧ b < w.heap.size ∧ w.cell? ⟨b, off + k, none⟩ = some u ∧ u = .slice Au (listAt ls k).length cu ∧ (Au = none → cu = 0) ∧ SlV w w.heap.size 3 Au (listAt ls k).length (recVs (listAt ls k))) := Lib.hid fun k hk => by
    obtain ⟨u, hu, ho⟩ := hS.at_ hk
    obtain ⟨Au, cu, he, hr, hs⟩ := ho.slv
    exact ⟨g, 0, u, Au, cu, hA (by omega), hg (by omega), by rw [Nat.zero_add]; exact (hC k u hu).1, he, hr, hs⟩
  obtain ⟨n, hq⟩ : ∃ n, ls.length = n := ⟨_, rfl⟩
  rw [hq] at hat hl0 ⊢
  have HQ := Lib.hid hq
  have HN := Lib.hid hn
  clear hS hC hA hg h hq hn
  obtain ⟨f, hf⟩ : ∃ f : Nat → Nat, ∀ k, (ls.take k).flatten.length = f k := ⟨_, fun _ => rfl⟩
  have HF := Lib.hid hf
  have HF1 : Hid (∀ k, k < n → f (k + 1) = f k + (listAt ls k).length) := Lib.hid fun k hk => by
    rw [← hf, ← hf, flat_take_next (by have := HQ.out; omega), List.length_append]
  have HF2 : Hid (∀ k, f k ≤ 1000000) := Lib.hid fun k => by
    have := flat_take_le ls k
    have := HN.out
    rw [← hf]
    omega
  have HF0 : Hid (f 0 = 0) := Lib.hid (by rw [← hf]; simp)
  clear hf
  go_enter Tryz.func58, Tryz.ntmps58
  go_wp2_with fail
  go_loopw [3, 11] (fun s i wr => ∃ k : Nat, k ≤ n ∧ i = .int .i64 k ∧ s = .int .i64 (f k : Nat) ∧ w = wr) (fun _ i _ => n - (intOf i).toNat)
  case atStart => exact ⟨0, Nat.zero_le _, rfl, by rw [HF0.out]; rfl, rfl⟩
  case round =>
    obtain ⟨k, hk, rfl, rfl, rfl⟩ := hrel
    by_cases hlt : k < n
    · obtain ⟨b, off, u, Au, cu, rfl, hb, hu, rfl, hr, hs⟩ := hat.out k hlt
      have e1 := HF1.out k hlt
      have e2 := HF2.out (k + 1)
      have E1 := Lib.hid e1
      rw [e1] at e2
      clear hs hr e1
      generalize f k = p at *
      generalize (listAt ls k).length = q at *
      have i1 : (p : Int) + (q : Int) ≤ 1000000 := by omega
      have i2 : ¬ ((p : Int) + (q : Int) < 0) := by omega
      go_wp2
      exact ⟨⟨k + 1, by omega, by go_num, by rw [E1.out]; go_num, by trivial⟩, by simp [intOf]; omega⟩
    · obtain rfl : k = n := by omega
      have e2 := HF2.out k
      go_wp2_with fail
      refine (grow_nil (f k) _ e2).mono ?_
      rintro e w1 ⟨v1, rfl, O1, K1⟩
      clear e2
      go_wp2_with fail
      go_loopw [6, 27] (fun v i wr => ∃ m : Nat, m ≤ k ∧ i = .int .i64 m ∧ OR wr w.heap.size v (ls.take m).flatten ∧ Below w.heap.size w wr) (fun _ i _ => k - (intOf i).toNat)
      case atStart => exact ⟨0, Nat.zero_le _, rfl, by simpa using O1, K1⟩
      case round =>
        clear O1 K1
        obtain ⟨m, hm, rfl, O1, K1⟩ := hrel
        by_cases hlt2 : m < k
        · obtain ⟨b, off, u, Au, cu, rfl, hb, hu, rfl, hr, hs⟩ := hat.out m hlt2
          have q0 := (K1.cell (p := ⟨b, off + m, none⟩) hb).trans hu
          have HS := Lib.hid (hs.below K1 (Nat.le_refl _))
          have HR := Lib.hid hr
          have HE := Lib.hid (flat_take_next (ls := ls) (k := m) (by have := HQ.out; omega))
          have HL : Hid ((ls.take m).flatten.length + (listAt ls m).length ≤ 1000000) := Lib.hid (by have h1 := HF1.out m hlt2; have h2 := HF2.out (m + 1); have h3 := HF.out m; omega)
          have HO := Lib.hid O1
          clear hs hr hu O1
          go_wp2_with
            (at_builtin
             refine append_recs _ _ rfl rfl rfl HO.out rfl HR.out HS.out HL.out K1.size ?_
             intro v2 w2 O2 hb2 hk2
             have HO2 := Lib.hid O2
             replace K1 := K1.trans hb2
             clear O2 hb2 hk2)
          exact ⟨⟨m + 1, by omega, by go_num, by rw [HE.out]; exact HO2.out, K1⟩, by simp [intOf]; omega⟩
        · obtain rfl : m = k := by omega
          have HO := Lib.hid O1
          clear O1
          go_wp2
          go_ret
          exact ⟨_, rfl, by have := HO.out; rwa [List.take_of_length_le (by have := HQ.out; omega)] at this, K1⟩
end Go.Proofs.YtkefbmbjkijilaaGreatDoor
