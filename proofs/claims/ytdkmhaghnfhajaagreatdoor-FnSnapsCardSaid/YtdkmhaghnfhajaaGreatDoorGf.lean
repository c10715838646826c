/-
  The program's records of a state's pods, and of what it holds (chapter 14).
-/
import Derived.Test.YtdkmhaghnfhajaaGreatDoorMZxLqB
import Derived.Laws.Tables
set_option linter.unusedVariables false
namespace Go.Proofs.YtdkmhaghnfhajaaGreatDoor
open Go.RowKit

theorem row_apartG {w : World} {B e k n g T : Nat} {cs : Array Value} {v : Value} {xs : List Value} (h : w.ownsRow B e k v n xs) (hg : w.heap[g]? = some (.cells cs T (0, 0))) (hne : T ≠ e) : ∀ r, v.ownBlock = some r → ¬ r = g := by
  rintro r hr rfl
  rcases h.2 with ⟨rfl, _⟩ | ⟨g1, c1, cur1, rfl, _, hh1, _⟩
  · cases hr
  · obtain rfl : g1 = r := by simpa [Value.ownBlock] using hr
    rw [hg] at hh1
    injection hh1 with hh1
    injection hh1 with _ h2 _
    exact hne h2

set_option maxRecDepth 100000 in
set_option maxHeartbeats 8000000 in
theorem podsTold_any (s : StD) (A : Option Addr) (c : Nat) (w : World) (h : SlV w w.heap.size 2 A s.pods.length (podCs s.pods)) (hl : s.pods.length ≤ 12) :
    Calls Tryz.prog 47 #[.slice A s.pods.length c] w fun e w' => ∃ v, e = .returned v ∧ OR w' w.heap.size v (upTo s.pods.length (snapP s)) ∧ Below w.heap.size w w' := by
  have R := Lib.hid h
  clear h
  have W0 : Below w.heap.size w (w.alloc (.cells #[] 52)) := (Below.refl _ _).alloc (Nat.le_refl _) _
  have O1 : OR ((w.alloc (.cells #[] 52)).alloc (.cells #[.int .i64 0, .int .i64 0] 62)) w.heap.size (.slice (some ⟨w.heap.size, 0, none⟩) 0 0) [] := (OR.empty (w := w) (Nat.le_refl _)).below ((Below.refl _ _).alloc (Nat.le_refl _) _)
  have H4 := heap_alloc_new (w.alloc (.cells #[] 52)) (.cells #[.int .i64 0, .int .i64 0] 62)
  rw [heap_size_alloc_] at H4
  have K := W0.alloc (by rw [heap_size_alloc_]; omega) (.cells #[.int .i64 0, .int .i64 0] 62)
  have HO := Lib.hid O1
  clear O1 W0
  go_enter Tryz.func47, Tryz.ntmps47
  go_upto_region 3 with fail
  generalize (w.alloc (.cells #[] 52)).alloc (.cells #[.int .i64 0, .int .i64 0] 62) = w1 at HO H4 K ⊢
  have hl2 : s.pods.length ≤ 2 ^ 63 - 1 := by omega
  go_wp2_with fail
  go_loopw [3, 11] (fun v j wr => ∃ k : Nat, k ≤ s.pods.length ∧ j = .int .i64 k ∧ Hid (OR wr w.heap.size v (upTo k (snapP s))) ∧ wr.heap[w.heap.size + 1]? = some (.cells #[.int .i64 0, .int .i64 0] 62) ∧ Below w.heap.size w wr) (fun _ j _ => s.pods.length - (intOf j).toNat)
  case atStart => exact ⟨0, Nat.zero_le _, rfl, Lib.hid (by rw [upTo_zero]; exact HO.out), H4, K⟩
  case round =>
    clear HO H4 K
    obtain ⟨k, hk, rfl, HO, H4, K⟩ := hrel
    by_cases hlt : k < s.pods.length
    · obtain ⟨b', off', rfl, hb', hc⟩ := (R.out.below K (Nat.le_refl _)).cell hlt
      have p0 := (hc 0 (by decide)).trans (podCs_at s.pods (i := k) hlt).1
      have p1 := (hc 1 (by decide)).trans (podCs_at s.pods (i := k) hlt).2
      rw [Nat.add_zero] at p0
      clear hc
      have HN1 : Hid (upTo (k + 1) (snapP s) = upTo k (snapP s) ++ (if (podA s.pods k).1 = 0 ∧ (podA s.pods k).2 = 0 then [] else [⟨8, (podA s.pods k).2, 0⟩, ⟨2, k, (podA s.pods k).1⟩])) := Lib.hid (by rw [upTo_next]; rfl)
      have HLE : Hid ((upTo k (snapP s)).length ≤ 24) := Lib.hid (by have := upTo_le (n := k) (snapP_le s); omega)
      generalize podA s.pods k = q at p0 p1 HN1
      obtain ⟨x, y⟩ := q
      dsimp only at p0 p1 HN1
      generalize hR : upTo k (snapP s) = done at HN1 HLE HO
      clear hR
      go_upto_region 6 with fail
      have hb : Below wr.heap.size wr (wr.alloc (.cells #[.int .i64 x, .int .i64 y] 62)) := (Below.refl _ _).alloc (Nat.le_refl _) _
      have H6 := heap_alloc_new wr (.cells #[.int .i64 x, .int .i64 y] 62)
      replace HO := Lib.hid (HO.out.below hb)
      replace H4 := (hb.block _ (Array.getElem?_eq_some_iff.1 H4).1).trans H4
      replace K := K.trans (hb.mono K.size)
      clear hb p0 p1 hb'
      generalize wr.alloc (.cells #[.int .i64 x, .int .i64 y] 62) = w5 at HO H4 H6 K ⊢
      generalize wr.heap.size = g6 at H6 ⊢
      have h4 : ∀ o, w5.cell? ⟨w.heap.size + 1, o, none⟩ = (#[.int .i64 0, .int .i64 0] : Array Value)[o]? := fun o => cell_of_row _ _ o _ _ _ H4
      have h6 : ∀ o, w5.cell? ⟨g6, o, none⟩ = (#[.int .i64 x, .int .i64 y] : Array Value)[o]? := fun o => cell_of_row _ _ o _ _ _ H6
      by_cases hx : x = 0
      · subst hx
        by_cases hy : y = 0
        · subst hy
          clear H6
          go_wp2
          refine ⟨⟨k + 1, by omega, by go_num, Lib.hid (by rw [HN1.out]; simpa using HO.out), H4, K⟩, by simp [intOf]; omega⟩
        · have HY := Lib.hid hy
          have e0 : (y == 0) = false := by simpa using hy
          clear hy
          go_wp2_with (at_builtin; refine append_news [⟨8, y, 0⟩, ⟨2, k, 0⟩] _ _ rfl rfl rfl HO.out rfl rfl rfl rfl (by have := HLE.out; omega) K.size ?_; rintro v' w' O' hb1 hk1; have H4' := (hk1.block _ (Array.getElem?_eq_some_iff.1 H4).1 (fun e => row_apartG HO.out H4 (by decide) _ e rfl)).trans H4)
          refine ⟨⟨k + 1, by omega, by go_num, Lib.hid (by rw [HN1.out, if_neg (fun h => HY.out h.2)]; exact O'), H4', K.trans hb1⟩, by simp [intOf]; omega⟩
      · have HX := Lib.hid hx
        have e0 : (x == 0) = false := by simpa using hx
        clear hx
        go_wp2_with (at_builtin; refine append_news [⟨8, y, 0⟩, ⟨2, k, x⟩] _ _ rfl rfl rfl HO.out rfl rfl rfl rfl (by have := HLE.out; omega) K.size ?_; rintro v' w' O' hb1 hk1; have H4' := (hk1.block _ (Array.getElem?_eq_some_iff.1 H4).1 (fun e => row_apartG HO.out H4 (by decide) _ e rfl)).trans H4)
        refine ⟨⟨k + 1, by omega, by go_num, Lib.hid (by rw [HN1.out, if_neg (fun h => HX.out h.1)]; exact O'), H4', K.trans hb1⟩, by simp [intOf]; omega⟩
    · obtain rfl : k = s.pods.length := by omega
      clear H4
      go_wp2
      all_goals (go_ret; exact ⟨_, rfl, HO.out, K⟩)
set_option maxRecDepth 100000 in
set_option maxHeartbeats 16000000 in
theorem holdsTold_any (sv : Value) (s : StD) (w : World) (hs : IsSt w w.heap.size sv s) (hsz : s.mnts.length ≤ 12 ∧ s.devs.length ≤ 12 ∧ s.lks.length ≤ 12) (hm : ∀ q ∈ s.mnts, q.1 = false → q.2 = 0) :
    Calls Tryz.prog 48 #[sv] w fun e w' => ∃ v, e = .returned v ∧ OR w' w.heap.size v (upTo s.mnts.length (snapM s) ++ (upTo s.devs.length (snapV s) ++ s.lks.map (fun x => (⟨6, x, 0⟩ : RecD)))) ∧ Below w.heap.size w w' := by
  obtain ⟨⟨A0, A1, A2, A3, c0, c1, c2, c3, rfl, t0, t1, t2, t3⟩, f0, f1, f2, f3⟩ := hs
  have R1 := Lib.hid t1
  have R2 := Lib.hid t2
  have R3 := Lib.hid t3
  have HSZ := Lib.hid hsz
  have HM := Lib.hid hm
  unfold maxLen at f1 f2 f3
  clear t0 t1 t2 t3 hsz f0 hm
  obtain ⟨X, O0⟩ := one_start w (stC A0 A1 A2 A3 s.pods.length c0 s.mnts.length c1 s.devs.length c2 s.lks.length c3 s.ph s.co s.ck s.bo s.ba s.lb s.gd s.pr) 34
  obtain ⟨ans, hans⟩ : ∃ ans, upTo s.mnts.length (snapM s) ++ (upTo s.devs.length (snapV s) ++ s.lks.map (fun x => (⟨6, x, 0⟩ : RecD))) = ans := ⟨_, rfl⟩
  rw [hans]
  have HANS := Lib.hid hans.symm
  clear hans
  go_enter Tryz.func48, Tryz.ntmps48
  go_upto_region 2 with fail
  generalize (w.alloc (.cells (stC A0 A1 A2 A3 s.pods.length c0 s.mnts.length c1 s.devs.length c2 s.lks.length c3 s.ph s.co s.ck s.bo s.ba s.lb s.gd s.pr) 34)).alloc (.cells #[] 52) = w1 at X O0 ⊢
  have HO := Lib.hid O0
  have hC := X.C
  clear O0
  go_wp2_with fail
  go_loopw [3, 14] (fun v j wr => ∃ k : Nat, k ≤ s.mnts.length ∧ j = .int .i64 k ∧ Hid (OR wr (w.heap.size + 1) v (upTo k (snapM s))) ∧ Own w wr w.heap.size (stC A0 A1 A2 A3 s.pods.length c0 s.mnts.length c1 s.devs.length c2 s.lks.length c3 s.ph s.co s.ck s.bo s.ba s.lb s.gd s.pr)) (fun _ j _ => s.mnts.length - (intOf j).toNat)
  case atStart => exact ⟨0, Nat.zero_le _, rfl, Lib.hid (by rw [upTo_zero]; exact HO.out), X⟩
  case round =>
    clear HO X hC
    obtain ⟨k, hk, rfl, HO, X⟩ := hrel
    have hC := X.C
    by_cases hlt : k < s.mnts.length
    · obtain ⟨b', off', rfl, hb', hc⟩ := (R1.out.below X.K (Nat.le_refl _)).cell hlt
      have p0 := (hc 0 (by decide)).trans (mntCs_at s.mnts (i := k) hlt).1
      have p1 := (hc 1 (by decide)).trans (mntCs_at s.mnts (i := k) hlt).2
      rw [Nat.add_zero] at p0
      clear hc
      have HN1 : Hid (upTo (k + 1) (snapM s) = upTo k (snapM s) ++ ((if (mntA s.mnts k).1 then [] else [⟨4, k, 0⟩]) ++ (if (mntA s.mnts k).2 = 0 then [] else [⟨3, k, (mntA s.mnts k).2⟩]))) := Lib.hid (by rw [upTo_next]; rfl)
      have HLE : Hid ((upTo k (snapM s)).length ≤ 24) := Lib.hid (by have := upTo_le (n := k) (snapM_le s); have := HSZ.out; omega)
      have HQ : Hid ((mntA s.mnts k).1 = false → (mntA s.mnts k).2 = 0) := Lib.hid (HM.out _ (by unfold mntA; rw [List.getD_eq_getElem?_getD, List.getElem?_eq_getElem hlt]; exact List.getElem_mem hlt))
      generalize mntA s.mnts k = q at p0 p1 HN1 HQ
      obtain ⟨x, y⟩ := q
      dsimp only at p0 p1 HN1 HQ
      generalize hR : upTo k (snapM s) = done at HN1 HLE HO
      clear hR
      go_upto_region 5 with fail
      have hb : Below wr.heap.size wr (wr.alloc (.cells #[.bool x, .int .i64 y] 83)) := (Below.refl _ _).alloc (Nat.le_refl _) _
      have H6 := heap_alloc_new wr (.cells #[.bool x, .int .i64 y] 83)
      replace HO := Lib.hid (HO.out.below hb)
      replace X := X.step hb
      clear hb p0 p1 hb' hC
      generalize wr.alloc (.cells #[.bool x, .int .i64 y] 83) = w5 at HO X H6 ⊢
      generalize wr.heap.size = g6 at H6 ⊢
      have h6 : ∀ o, w5.cell? ⟨g6, o, none⟩ = (#[.bool x, .int .i64 y] : Array Value)[o]? := fun o => cell_of_row _ _ o _ _ _ H6
      have hC := X.C
      clear H6
      cases x
      · have hy0 := HQ.out rfl
        subst hy0
        go_wp2_with (at_builtin; refine append_rec 4 k 0 _ _ rfl rfl rfl HO.out rfl rfl (by have := HLE.out; omega) X.z ?_; rintro v' w' O' hb1 -)
        refine ⟨⟨k + 1, by omega, by go_num, Lib.hid (by rw [HN1.out]; simpa using O'), X.low hb1 (by omega) (by omega)⟩, by simp [intOf]; omega⟩
      · by_cases hy : y = 0
        · subst hy
          go_wp2
          refine ⟨⟨k + 1, by omega, by go_num, Lib.hid (by rw [HN1.out]; simpa using HO.out), X⟩, by simp [intOf]; omega⟩
        · have HY := Lib.hid hy
          have e0 : (y != 0) = true := by simpa using hy
          clear hy
          go_wp2_with (at_builtin; refine append_rec 3 k y _ _ rfl rfl rfl HO.out rfl rfl (by have := HLE.out; omega) X.z ?_; rintro v' w' O' hb1 -)
          refine ⟨⟨k + 1, by omega, by go_num, Lib.hid (by rw [HN1.out, if_neg HY.out]; simpa using O'), X.low hb1 (by omega) (by omega)⟩, by simp [intOf]; omega⟩
    · obtain rfl : k = s.mnts.length := by omega
      have HL3 : Hid ((upTo s.mnts.length (snapM s)).length ≤ 24) := Lib.hid (by have := upTo_le (n := s.mnts.length) (snapM_le s); have := HSZ.out; omega)
      have HA3 := HANS
      clear HANS
      generalize hR : upTo s.mnts.length (snapM s) = q3_ at HA3 HL3 HO
      clear hR
      go_wp2_with fail
      go_loopw [3, 43] (fun v j wr => ∃ k : Nat, k ≤ s.devs.length ∧ j = .int .i64 k ∧ Hid (OR wr (w.heap.size + 1) v (q3_ ++ upTo k (snapV s))) ∧ Own w wr w.heap.size (stC A0 A1 A2 A3 s.pods.length c0 s.mnts.length c1 s.devs.length c2 s.lks.length c3 s.ph s.co s.ck s.bo s.ba s.lb s.gd s.pr)) (fun _ j _ => s.devs.length - (intOf j).toNat)
      case atStart => exact ⟨0, Nat.zero_le _, rfl, Lib.hid (by rw [upTo_zero, List.append_nil]; exact HO.out), X⟩
      case round =>
        clear HO X hC
        obtain ⟨k, hk, rfl, HO, X⟩ := hrel
        have hC := X.C
        by_cases hlt : k < s.devs.length
        · obtain ⟨b', off', rfl, hb', hc⟩ := (R2.out.below X.K (Nat.le_refl _)).cell hlt
          have p0 := (hc 0 (by decide)).trans (devCs_at s.devs (i := k * 1 + 0) (by omega))
          rw [Nat.add_zero, Nat.mul_one] at p0
          clear hc
          have HN1 : Hid (q3_ ++ upTo (k + 1) (snapV s) = (q3_ ++ upTo k (snapV s)) ++ (if devA s.devs k then [] else [⟨5, k, 0⟩])) := Lib.hid (by rw [upTo_next, List.append_assoc]; rfl)
          have HLE : Hid ((q3_ ++ upTo k (snapV s)).length ≤ 36) := Lib.hid (by have := upTo_le (n := k) (snapV_le s); have := HL3.out; have := HSZ.out; rw [List.length_append]; omega)
          generalize devA s.devs k = x at p0 HN1
          generalize hR : q3_ ++ upTo k (snapV s) = done at HN1 HLE HO
          clear hR
          cases x
          · go_wp2_with (at_builtin; refine append_rec 5 k 0 _ _ rfl rfl rfl HO.out rfl rfl (by have := HLE.out; omega) X.z ?_; rintro v9 w9 O9 hb9 -)
            refine ⟨⟨k + 1, by omega, by go_num, Lib.hid (by rw [HN1.out]; simpa using O9), X.low hb9 (by omega) (by omega)⟩, by simp [intOf]; omega⟩
          · go_wp2
            refine ⟨⟨k + 1, by omega, by go_num, Lib.hid (by rw [HN1.out]; simpa using HO.out), X⟩, by simp [intOf]; omega⟩
        · obtain rfl : k = s.devs.length := by omega
          have HL4 : Hid ((q3_ ++ upTo s.devs.length (snapV s)).length ≤ 36) := Lib.hid (by have := upTo_le (n := s.devs.length) (snapV_le s); have := HL3.out; have := HSZ.out; rw [List.length_append]; omega)
          have HA4 : Hid (ans = (q3_ ++ upTo s.devs.length (snapV s)) ++ s.lks.map (fun x => (⟨6, x, 0⟩ : RecD))) := Lib.hid (by rw [HA3.out, List.append_assoc])
          generalize hR : q3_ ++ upTo s.devs.length (snapV s) = q4_ at HA4 HL4 HO
          clear hR
          go_wp2_with fail
          go_loopw [3, 59] (fun v j wr => ∃ k : Nat, k ≤ s.lks.length ∧ j = .int .i64 k ∧ Hid (OR wr (w.heap.size + 1) v (q4_ ++ (s.lks.take k).map (fun x => (⟨6, x, 0⟩ : RecD)))) ∧ Own w wr w.heap.size (stC A0 A1 A2 A3 s.pods.length c0 s.mnts.length c1 s.devs.length c2 s.lks.length c3 s.ph s.co s.ck s.bo s.ba s.lb s.gd s.pr)) (fun _ j _ => s.lks.length - (intOf j).toNat)
          case atStart => exact ⟨0, Nat.zero_le _, rfl, Lib.hid (by rw [List.take_zero, List.map_nil, List.append_nil]; exact HO.out), X⟩
          case round =>
            clear HO X hC
            obtain ⟨k, hk, rfl, HO, X⟩ := hrel
            have hC := X.C
            by_cases hlt : k < s.lks.length
            · obtain ⟨b', off', rfl, hb', hc⟩ := (R3.out.below X.K (Nat.le_refl _)).cell hlt
              have p0 := (hc 0 (by decide)).trans (lkCs_at s.lks (i := k * 1 + 0) (by omega))
              rw [Nat.add_zero, Nat.mul_one] at p0
              clear hc
              have HN1 : Hid (q4_ ++ (s.lks.take (k + 1)).map (fun x => (⟨6, x, 0⟩ : RecD)) = (q4_ ++ (s.lks.take k).map (fun x => (⟨6, x, 0⟩ : RecD))) ++ [⟨6, lkA s.lks k, 0⟩]) := Lib.hid (by
                rw [List.append_assoc, take_at (i := lkA s.lks k) (by rw [List.getElem?_eq_getElem hlt]; simp [lkA, List.getD, List.getElem?_eq_getElem hlt]), List.map_append]
                rfl)
              have HLE : Hid ((q4_ ++ (s.lks.take k).map (fun x => (⟨6, x, 0⟩ : RecD))).length ≤ 48) := Lib.hid (by have := HL4.out; have := HSZ.out; rw [List.length_append, List.length_map, List.length_take]; omega)
              generalize lkA s.lks k = x at p0 HN1
              generalize hR : q4_ ++ (s.lks.take k).map (fun x => (⟨6, x, 0⟩ : RecD)) = done at HN1 HLE HO
              clear hR
              go_wp2_with (at_builtin; refine append_rec 6 x 0 _ _ rfl rfl rfl HO.out rfl rfl (by have := HLE.out; omega) X.z ?_; rintro v9 w9 O9 hb9 -)
              refine ⟨⟨k + 1, by omega, by go_num, Lib.hid (by rw [HN1.out]; exact O9), X.low hb9 (by omega) (by omega)⟩, by simp [intOf]; omega⟩
            · obtain rfl : k = s.lks.length := by omega
              rw [List.take_length] at HO
              go_wp2
              all_goals (go_ret; exact ⟨_, rfl, by rw [HA4.out]; exact HO.out.base (by omega), X.K⟩)

end Go.Proofs.YtdkmhaghnfhajaaGreatDoor
