/-
  The model's draw of a pod, where it stands, and a clock.
-/
import Derived.Test.YtbcpimnbmjhjlaaDm
import Derived.Test.YtbcpimnbmjhjlaaKa
set_option linter.unusedVariables false
namespace Go.Proofs.Ytbcpimnbmjhjlaa
open Go.RowKit

theorem results_cells3 {P : Program} {fn : Func} {p q r : Tmp} {ty ty' : TypeId} (h : fn.results = #[.cell p ty, .cell q ty', .tmp r]) (tmps : Array Value) (w : World) (g g' : Nat) (t t' : TypeId) (cs cs' : Array Value) (fr fr' : Nat × Nat) (d d' : TypeDesc) (u : Value)
    (hp : tmps.getD p undef = .pointer (some ⟨g, 0, none⟩)) (hq : tmps.getD q undef = .pointer (some ⟨g', 0, none⟩)) (hr : tmps.getD r undef = u) (hg : w.heap[g]? = some (.cells cs t fr)) (hg' : w.heap[g']? = some (.cells cs' t' fr'))
    (hu : P.underlying ty = some d) (hd : (match d with | .struct _ | .array _ _ => true | _ => false) = true) (hi : (P.info? ty).map (·.size) = some cs.size)
    (hu' : P.underlying ty' = some d') (hd' : (match d' with | .struct _ | .array _ _ => true | _ => false) = true) (hi' : (P.info? ty').map (·.size) = some cs'.size) :
    (results fn tmps).run P w = .ok (.tuple #[.agg cs, .agg cs', u]) w := by
  have hp' : tmps[p]?.getD undef = .pointer (some ⟨g, 0, none⟩) := by simpa using hp
  have hq' : tmps[q]?.getD undef = .pointer (some ⟨g', 0, none⟩) := by simpa using hq
  have hr' : tmps[r]?.getD undef = u := by simpa using hr
  simp [results, h, hp', hq', hr', asAddr, run_loadVar_row w g t ty cs fr d hg hu hd hi, run_loadVar_row w g' t' ty' cs' fr' d' hg' hu' hd' hi']
def GivesPod (w : World) (e : Ending) (w' : World) : Prop :=
  ∃ gr ba grace hook st since clock : Int, e = .returned (.tuple #[.agg #[.int .i64 gr, .int .i64 ba, .int .i64 grace, .int .i64 hook], .agg #[.int .i64 st, .int .i64 since], .int .i64 clock]) ∧ Below w.heap.size w w'
set_option maxRecDepth 100000 in
set_option maxHeartbeats 4000000 in
theorem drawPodStep_any (A : Option Addr) (n c : Nat) (w : World) (hB : Bytes w w.heap.size A n) (hn : n ≤ 4096) : Calls Try.prog 18 #[.slice A n c] w (GivesPod w) := by
  have HIP : Hid ((Try.prog.info? 27).map (·.size) = some 4) := Lib.hid (by kernel_rfl)
  have HIA : Hid ((Try.prog.info? 29).map (·.size) = some 2) := Lib.hid (by kernel_rfl)
  have H2 : ((w.alloc (.cells #[.int .i64 0, .int .i64 0, .int .i64 0, .int .i64 0] 27)).alloc (.cells #[.int .i64 0, .int .i64 0] 29)).heap[w.heap.size]? = some (.cells #[.int .i64 0, .int .i64 0, .int .i64 0, .int .i64 0] 27) := by
    have hb := (Below.refl (w.alloc (.cells #[.int .i64 0, .int .i64 0, .int .i64 0, .int .i64 0] 27)).heap.size (w.alloc (.cells #[.int .i64 0, .int .i64 0, .int .i64 0, .int .i64 0] 27))).alloc (Nat.le_refl _) (.cells #[.int .i64 0, .int .i64 0] 29)
    exact (hb.block w.heap.size (by simp)).trans (heap_alloc_new w _)
  have H3 : ((w.alloc (.cells #[.int .i64 0, .int .i64 0, .int .i64 0, .int .i64 0] 27)).alloc (.cells #[.int .i64 0, .int .i64 0] 29)).heap[w.heap.size + 1]? = some (.cells #[.int .i64 0, .int .i64 0] 29) := by
    have := heap_alloc_new (w.alloc (.cells #[.int .i64 0, .int .i64 0, .int .i64 0, .int .i64 0] 27)) (.cells #[.int .i64 0, .int .i64 0] 29)
    rwa [show ∀ (W : World) (o : Obj), (W.alloc o).heap.size = W.heap.size + 1 from fun W o => by simp] at this
  have KB : Below w.heap.size w ((w.alloc (.cells #[.int .i64 0, .int .i64 0, .int .i64 0, .int .i64 0] 27)).alloc (.cells #[.int .i64 0, .int .i64 0] 29)) := ((Below.refl _ _).alloc (Nat.le_refl _) _).alloc (by simp) _
  have HB := Lib.hid ((hB.below KB (Nat.le_refl _)).more KB.size)
  clear hB
  go_enter Try.func18, Try.ntmps18
  go_wp2_with fail
  generalize (w.alloc (.cells #[.int .i64 0, .int .i64 0, .int .i64 0, .int .i64 0] 27)).alloc (.cells #[.int .i64 0, .int .i64 0] 29) = w0 at H2 H3 KB HB ⊢
  refine (l1New_any A n c w0 HB.out hn).mono ?_
  have hz0 := (Array.getElem?_eq_some_iff.1 H3).1
  rintro e w1 ⟨g, rfl, hg, hc, K1⟩
  replace H2 := (K1.block _ (Array.getElem?_eq_some_iff.1 H2).1).trans H2
  replace H3 := (K1.block _ (Array.getElem?_eq_some_iff.1 H3).1).trans H3
  have g2 : ¬ w.heap.size = g := by omega
  have g3 : ¬ w.heap.size + 1 = g := by omega
  replace KB := KB.trans (K1.mono KB.size)
  clear K1 HB
  go_wp2_with fail
  refine (l1Below_any g 6 _ hc (by omega) (by omega)).mono ?_
  rintro e w2 ⟨a2, rfl, x2, y2, hc2, hk⟩
  replace hc := hc2
  clear hc2
  replace H2 := (hk.block _ (Array.getElem?_eq_some_iff.1 H2).1 g2).trans H2
  replace H3 := (hk.block _ (Array.getElem?_eq_some_iff.1 H3).1 g3).trans H3
  replace KB := KB.trans (hk.below (B := w.heap.size) KB.size (by rintro b hb rfl; omega))
  clear hk
  go_wp2_with fail
  refine (l1Below_any g 3 _ hc (by omega) (by omega)).mono ?_
  rintro e w3 ⟨a3, rfl, x3, y3, hc3, hk⟩
  replace hc := hc3
  clear hc3
  replace H2 := (hk.block _ (Array.getElem?_eq_some_iff.1 H2).1 g2).trans H2
  replace H3 := (hk.block _ (Array.getElem?_eq_some_iff.1 H3).1 g3).trans H3
  replace KB := KB.trans (hk.below (B := w.heap.size) KB.size (by rintro b hb rfl; omega))
  clear hk
  go_wp2_with fail
  refine (l1Below_any g 3 _ hc (by omega) (by omega)).mono ?_
  rintro e w4 ⟨a4, rfl, x4, y4, hc4, hk⟩
  replace hc := hc4
  clear hc4
  replace H2 := (hk.block _ (Array.getElem?_eq_some_iff.1 H2).1 g2).trans H2
  replace H3 := (hk.block _ (Array.getElem?_eq_some_iff.1 H3).1 g3).trans H3
  replace KB := KB.trans (hk.below (B := w.heap.size) KB.size (by rintro b hb rfl; omega))
  clear hk
  go_wp2_with fail
  have n6 : w.heap.size + 1 < w4.heap.size := (Array.getElem?_eq_some_iff.1 H3).1
  have C6 := Blk.new w4 #[.int .i64 0, .int .i64 0, .int .i64 a2, .int .i64 (wrap64 (a3 * a4))] 27
  replace H2 := (((Below.refl _ _).alloc (Nat.le_refl _) (.cells #[.int .i64 0, .int .i64 0, .int .i64 a2, .int .i64 (wrap64 (a3 * a4))] 27)).block _ (Array.getElem?_eq_some_iff.1 H2).1).trans H2
  replace H3 := (((Below.refl _ _).alloc (Nat.le_refl _) (.cells #[.int .i64 0, .int .i64 0, .int .i64 a2, .int .i64 (wrap64 (a3 * a4))] 27)).block _ (Array.getElem?_eq_some_iff.1 H3).1).trans H3
  replace KB := KB.alloc KB.size (.cells #[.int .i64 0, .int .i64 0, .int .i64 a2, .int .i64 (wrap64 (a3 * a4))] 27)
  have g6 : ¬ w4.heap.size = g := by have := hc.lt; omega
  replace hc := hc.alloc (.cells #[.int .i64 0, .int .i64 0, .int .i64 a2, .int .i64 (wrap64 (a3 * a4))] 27)
  generalize w4.alloc (.cells #[.int .i64 0, .int .i64 0, .int .i64 a2, .int .i64 (wrap64 (a3 * a4))] 27) = w5 at C6 H2 H3 KB hc ⊢
  generalize w4.heap.size = R6 at C6 g6 n6 ⊢
  generalize wrap64 (a3 * a4) = hk_ at C6 ⊢
  refine (l1From_any g (-1) 7 _ hc (by omega) (by omega) (by omega) (by omega)).mono ?_
  rintro e w6 ⟨a6, rfl, x6, y6, hc6, hk⟩
  replace hc := hc6
  clear hc6
  replace H2 := (hk.block _ (Array.getElem?_eq_some_iff.1 H2).1 g2).trans H2
  replace H3 := (hk.block _ (Array.getElem?_eq_some_iff.1 H3).1 g3).trans H3
  replace C6 := C6.keeps hk g6
  replace KB := KB.trans (hk.below (B := w.heap.size) KB.size (by rintro b hb rfl; omega))
  clear hk
  go_wp2_with fail
  refine (l1Below_any g 10 _ hc (by omega) (by omega)).mono ?_
  rintro e w7 ⟨a7, rfl, x7, y7, hc7, hk⟩
  replace hc := hc7
  clear hc7
  replace H2 := (hk.block _ (Array.getElem?_eq_some_iff.1 H2).1 g2).trans H2
  replace H3 := (hk.block _ (Array.getElem?_eq_some_iff.1 H3).1 g3).trans H3
  replace C6 := C6.keeps hk g6
  replace KB := KB.trans (hk.below (B := w.heap.size) KB.size (by rintro b hb rfl; omega))
  clear hk
  go_wp2_with fail
  have n7 : w.heap.size + 1 < w7.heap.size := (Array.getElem?_eq_some_iff.1 H3).1
  have C7 := Blk.new w7 #[.int .i64 a6, .int .i64 a7] 29
  replace H2 := (((Below.refl _ _).alloc (Nat.le_refl _) (.cells #[.int .i64 a6, .int .i64 a7] 29)).block _ (Array.getElem?_eq_some_iff.1 H2).1).trans H2
  replace H3 := (((Below.refl _ _).alloc (Nat.le_refl _) (.cells #[.int .i64 a6, .int .i64 a7] 29)).block _ (Array.getElem?_eq_some_iff.1 H3).1).trans H3
  replace KB := KB.alloc KB.size (.cells #[.int .i64 a6, .int .i64 a7] 29)
  have g7 : ¬ w7.heap.size = g := by have := hc.lt; omega
  replace C6 := C6.alloc (.cells #[.int .i64 a6, .int .i64 a7] 29)
  replace hc := hc.alloc (.cells #[.int .i64 a6, .int .i64 a7] 29)
  generalize w7.alloc (.cells #[.int .i64 a6, .int .i64 a7] 29) = w8 at C6 C7 H2 H3 KB hc ⊢
  generalize w7.heap.size = R7 at C7 g7 n7 ⊢
  replace C6 := C6.below (Below.refl _ _).drew
  replace C7 := C7.below (Below.refl _ _).drew
  rw [← heap_drew w8] at H2 H3
  replace KB := KB.drew
  replace hc := hc.below (Below.refl _ _).drew
  refine wp_region_noPanic ?_
  refine wp_region_held_drew (S := fun W => (∀ o, W.cell? ⟨R6, o, none⟩ = (#[.int .i64 0, .int .i64 0, .int .i64 a2, .int .i64 hk_] : Array Value)[o]?) ∧ (∀ o, W.cell? ⟨R7, o, none⟩ = (#[.int .i64 a6, .int .i64 a7] : Array Value)[o]?)) (by kernel_rfl) ⟨C6.C, C7.C⟩ (fun _ => ?_)
  generalize w8.drew = wd at C6 C7 H2 H3 KB hc ⊢
  refine wpAnyH_take (i := 0) (v := ?_) rfl (by kernel_rfl) (by kernel_rfl) (by kernel_rfl) (fun _ _ _ h => h) (Or.inl ⟨by rfl, ?_⟩) ⟨C6.C, C7.C⟩ ?_
  rotate_left 1
  · intro w hSw
    obtain ⟨hs6, hs7⟩ := hSw
    go_simp
    try with_reducible rfl
  change wpAnyH _ _ _ _ _ _ _ (Act.put _ (some 23) _) _
  dsimp only [Act.put]
  refine wpAnyH_take (i := 1) (v := ?_) rfl (by kernel_rfl) (by kernel_rfl) (by kernel_rfl) (fun _ _ _ h => h) (Or.inl ⟨by rfl, ?_⟩) ⟨C6.C, C7.C⟩ ?_
  rotate_left 1
  · intro w hSw
    obtain ⟨hs6, hs7⟩ := hSw
    go_simp
    try with_reducible rfl
  change wpAnyH _ _ _ _ _ _ _ (Act.put _ (some 24) _) _
  dsimp only [Act.put]
  refine wpAnyH_take (i := 2) (v := ?_) rfl (by kernel_rfl) (by kernel_rfl) (by kernel_rfl) (fun _ _ _ h => h) (Or.inl ⟨by rfl, ?_⟩) ⟨C6.C, C7.C⟩ ?_
  rotate_left 1
  · intro w hSw
    obtain ⟨hs6, hs7⟩ := hSw
    go_simp
    try with_reducible rfl
  change wpAnyH _ _ _ _ _ _ _ (Act.put _ (some 25) _) _
  dsimp only [Act.put]
  refine wpAnyH_take (i := 3) (v := ?_) rfl (by kernel_rfl) (by kernel_rfl) (by kernel_rfl) (fun _ _ _ h => h) (Or.inl ⟨by rfl, ?_⟩) ⟨C6.C, C7.C⟩ ?_
  rotate_left 1
  · intro w hSw
    obtain ⟨hs6, hs7⟩ := hSw
    go_simp
    try with_reducible rfl
  change wpAnyH _ _ _ _ _ _ _ (Act.put _ (some 26) _) _
  dsimp only [Act.put]
  refine wpAnyH_take (i := 4) (v := ?_) rfl (by kernel_rfl) (by kernel_rfl) (by kernel_rfl) (fun _ _ _ h => h) (Or.inl ⟨by rfl, ?_⟩) ⟨C6.C, C7.C⟩ ?_
  rotate_left 1
  · intro w hSw
    obtain ⟨hs6, hs7⟩ := hSw
    go_simp
    try with_reducible rfl
  change wpAnyH _ _ _ _ _ _ _ (Act.put _ (some 27) _) _
  dsimp only [Act.put]
  refine wpAnyH_ready (rs := [5]) (by kernel_rfl) (by simp) ?_
  refine AllReadyH.cons rfl (fun K' hK => ?_) AllReadyH.nil
  go_simp
  go_at_call 20
  refine (l1Below_any g 9 _ hc (by omega) (by omega)).mono ?_
  rintro e w9 ⟨a9, rfl, x9, y9, hc9, hk⟩
  replace H2 := (hk.block _ (Array.getElem?_eq_some_iff.1 H2).1 g2).trans H2
  replace H3 := (hk.block _ (Array.getElem?_eq_some_iff.1 H3).1 g3).trans H3
  replace C6 := C6.keeps hk g6
  replace C7 := C7.keeps hk g7
  replace KB := KB.trans (hk.below (B := w.heap.size) KB.size (by rintro b hb rfl; omega))
  clear hk hc hc9
  go_wp2_with fail
  refine hK.out _ _ ⟨C6.C, C7.C⟩ (fun _ => ?_)
  clear hK K'
  first | (change wpAnyH _ _ _ _ _ _ _ (Act.put _ (some 28) _) _; dsimp only [Act.put]) | skip
  refine wpAnyH_take (i := 6) (v := ?_) rfl (by kernel_rfl) (by kernel_rfl) (by kernel_rfl) (fun _ _ _ h => h) (Or.inl ⟨by rfl, ?_⟩) ⟨C6.C, C7.C⟩ ?_
  rotate_left 1
  · intro w hSw
    obtain ⟨hs6, hs7⟩ := hSw
    go_simp
    try with_reducible rfl
  change wpAnyH _ _ _ _ _ _ _ (Act.put _ (some 29) _) _
  dsimp only [Act.put]
  generalize IntKind.i64.wrap (a7 + a9) = z
  refine wpAnyH_ready (rs := [7]) (by kernel_rfl) (by simp) ?_
  refine AllReadyH.cons rfl (fun K' hK => ?_) AllReadyH.nil
  rw [if_pos (by rfl)]
  refine wp_store_row 27 (.tmp 2) (.tmp 23) rfl (w.heap.size) (#[.int .i64 0, .int .i64 0, .int .i64 a2, .int .i64 hk_]) rfl rfl 27 _ H2 HIP.out rfl (by simp [Value.oneCell']) ?_
  replace H3 := (setRow_other _ (w.heap.size) _ (#[.int .i64 0, .int .i64 0, .int .i64 a2, .int .i64 hk_]) (by omega)).trans H3
  replace H2 := setRow_heap _ _ _ (#[.int .i64 0, .int .i64 0, .int .i64 a2, .int .i64 hk_]) _ _ H2
  replace C6 := C6.row (B := w.heap.size) (by omega) (#[.int .i64 0, .int .i64 0, .int .i64 a2, .int .i64 hk_])
  replace C7 := C7.row (B := w.heap.size) (by omega) (#[.int .i64 0, .int .i64 0, .int .i64 a2, .int .i64 hk_])
  replace KB := belowRow_ KB (B := w.heap.size) (by omega) (#[.int .i64 0, .int .i64 0, .int .i64 a2, .int .i64 hk_])
  refine hK.out _ _ ⟨C6.C, C7.C⟩ (fun _ => ?_)
  clear hK K'
  first | (change wpAnyH _ _ _ _ _ _ _ (Act.put _ none _) _; dsimp only [Act.put]) | skip
  refine wpAnyH_ready (rs := [8]) (by kernel_rfl) (by simp) ?_
  refine AllReadyH.cons rfl (fun K' hK => ?_) AllReadyH.nil
  rw [if_pos (by rfl)]
  refine wp_store_row 29 (.tmp 3) (.tmp 24) rfl (w.heap.size + 1) (#[.int .i64 a6, .int .i64 a7]) rfl rfl 29 _ H3 HIA.out rfl (by simp [Value.oneCell']) ?_
  replace H2 := (setRow_other _ (w.heap.size + 1) _ (#[.int .i64 a6, .int .i64 a7]) (by omega)).trans H2
  replace H3 := setRow_heap _ _ _ (#[.int .i64 a6, .int .i64 a7]) _ _ H3
  replace C6 := C6.row (B := w.heap.size + 1) (by omega) (#[.int .i64 a6, .int .i64 a7])
  replace C7 := C7.row (B := w.heap.size + 1) (by omega) (#[.int .i64 a6, .int .i64 a7])
  replace KB := belowRow_ KB (B := w.heap.size + 1) (by omega) (#[.int .i64 a6, .int .i64 a7])
  refine hK.out _ _ ⟨C6.C, C7.C⟩ (fun _ => ?_)
  clear hK K'
  first | (change wpAnyH _ _ _ _ _ _ _ (Act.put _ none _) _; dsimp only [Act.put]) | skip
  refine wpAnyH_take (i := 9) (v := ?_) rfl (by kernel_rfl) (by kernel_rfl) (by kernel_rfl) (fun _ _ _ h => h) (Or.inl ⟨by rfl, ?_⟩) ⟨C6.C, C7.C⟩ ?_
  rotate_left 1
  · intro w hSw
    obtain ⟨hs6, hs7⟩ := hSw
    go_simp
    try with_reducible rfl
  change wpAnyH _ _ _ _ _ _ _ (Act.put _ (some 4) _) _
  dsimp only [Act.put]
  refine wpAnyH_done (by kernel_rfl) ?_ _
  refine NoPanic.normal ?_
  go_wp2_with fail
  exact bodyPost_ret (v := .tuple #[.agg (#[.int .i64 0, .int .i64 0, .int .i64 a2, .int .i64 hk_]), .agg (#[.int .i64 a6, .int .i64 a7]), .int .i64 z]) (results_cells3 Try.results18 _ _ _ _ _ _ _ _ _ _ _ _ _ rfl rfl rfl H2 H3 Try.underlying27 rfl HIP.out Try.underlying29 rfl HIA.out) rfl ⟨_, _, _, _, _, _, _, rfl, KB⟩
end Go.Proofs.Ytbcpimnbmjhjlaa
