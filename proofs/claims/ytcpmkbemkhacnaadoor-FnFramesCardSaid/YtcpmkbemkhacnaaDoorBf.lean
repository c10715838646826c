/-
  A record read from bytes: the program's readRec.
-/
import Derived.Test.YtcpmkbemkhacnaaDoorBc
import Derived.Deep.RegionLaw
import Derived.StillTailTactics
set_option linter.unusedVariables false
namespace Go.Proofs.YtcpmkbemkhacnaaDoor
open Go.RowKit

/-- So many numbers ahead, one behind the other. -/
def nums (m : Nat) : Nat → List Nat → Option (List Nat × List Nat)
  | 0, L => some ([], L)
  | k + 1, L => (nums m k L).bind fun p => (num m p.2).map fun q => (p.1 ++ [q.1], q.2)
theorem nums_zero (m : Nat) (L : List Nat) : nums m 0 L = some ([], L) := rfl
theorem nums_step {m k n : Nat} {L M R : List Nat} {ns : List Nat} (h : nums m k L = some (ns, M)) (h1 : num m M = some (n, R)) : nums m (k + 1) L = some (ns ++ [n], R) := by
  rw [nums, h]; simp [h1]
theorem nums_stop {m k : Nat} {L M : List Nat} {ns : List Nat} (h : nums m k L = some (ns, M)) (h1 : num m M = none) : nums m (k + 1) L = none := by
  rw [nums, h]; simp [h1]
theorem nums_none {m k j : Nat} {L : List Nat} (h : nums m k L = none) (hj : k ≤ j) : nums m j L = none := by
  induction j with
  | zero => obtain rfl : k = 0 := by omega
            exact h
  | succ j ih =>
    by_cases e : k = j + 1
    · subst e; exact h
    · rw [nums, ih (by omega)]; rfl
theorem nums_len {m k : Nat} {L M : List Nat} {ns : List Nat} (h : nums m k L = some (ns, M)) : ns.length = k := by
  induction k generalizing ns M with
  | zero => cases h; rfl
  | succ k ih =>
    rw [nums] at h
    cases e : nums m k L with
    | none => rw [e] at h; cases h
    | some p =>
      obtain ⟨a, b⟩ := p
      rw [e] at h
      cases e2 : num m b with
      | none => simp [e2] at h
      | some q =>
        simp [e2] at h
        obtain ⟨h1, h2⟩ := h
        subst h1
        simp [ih e]
theorem getRec_nums {m : Nat} (hm : 1000000 < m) (L : List Nat) : getRec L =
    (nums m 3 L).bind fun p => if recOkB ⟨p.1.getD 0 0, p.1.getD 1 0, p.1.getD 2 0⟩ then some (⟨p.1.getD 0 0, p.1.getD 1 0, p.1.getD 2 0⟩, p.2) else none := by
  rw [getRec_num hm]
  simp only [nums]
  cases h1 : num m L with
  | none => simp [h1]
  | some p =>
    cases h2 : num m p.2 with
    | none => simp [h1, h2]
    | some q =>
      cases h3 : num m q.2 with
      | none => simp [h1, h2, h3]
      | some s => simp [h1, h2, h3]
theorem getD_snoc (ns : List Nat) (n j : Nat) : (ns ++ [n]).getD j 0 = if j = ns.length then n else ns.getD j 0 := by
  by_cases h : j < ns.length
  · rw [if_neg (by omega)]
    simp [List.getD, List.getElem?_append_left h]
  · by_cases e : j = ns.length
    · subst e; simp [List.getD]
    · rw [if_neg e]
      simp only [List.getD]
      rw [List.getElem?_eq_none (by simp; omega), List.getElem?_eq_none (by omega)]

/-- What readRec answers of the bytes L. -/
def ReadRec (B : Nat) (L : List Nat) (w : World) (e : Ending) (w' : World) : Prop :=
  ∃ (r : RecD) (v : Value) (ok : Bool), e = .returned (.tuple #[recV r, v, .bool ok]) ∧ Below w.heap.size w w' ∧
    ((ok = true ∧ ∃ R, getRec L = some (r, R) ∧ Bt w' B v R) ∨ (ok = false ∧ getRec L = none))
abbrev zero3 : Array Value := #[.int .i64 0, .int .i64 0, .int .i64 0]

set_option maxRecDepth 100000 in
set_option maxHeartbeats 4000000 in
theorem readRec_any (v : Value) (L : List Nat) (w : World) (B : Nat) (hN : Names w) (h : Bt w B v L) (hB : B ≤ w.heap.size) :
    Calls Tryd.prog 72 #[v] w (ReadRec B L w) := by
  have H := Lib.hid h
  have HN := Lib.hid hN
  have HB := Lib.hid hB
  clear h hN hB
  go_enter Tryd.func72, Tryd.ntmps72
  go_wp2_with fail
  have X0 := Own.box w zero3 30
  have Y0 := Own.box2 X0.K zero3 100
  have X1 := X0.alloc (.cells zero3 100)
  have R1 : RowF ((w.alloc (.cells zero3 30)).alloc (.cells zero3 100)) (w.heap.size + 1) 3 (fun j => (([] : List Nat).getD j 0 : Nat)) := fun j hj => by
    have h1 := Y0.C j
    have h2 := Y0.F j
    rw [show (w.alloc (.cells zero3 30)).heap.size = w.heap.size + 1 by simp] at h1 h2
    refine ⟨h1.trans ?_, h2⟩
    rcases (by omega : j = 0 ∨ j = 1 ∨ j = 2) with rfl | rfl | rfl <;> rfl
  have hz1 : w.heap.size + 1 < ((w.alloc (.cells zero3 30)).alloc (.cells zero3 100)).heap.size := by simp
  have hB1 : Bt ((w.alloc (.cells zero3 30)).alloc (.cells zero3 100)) B v L := H.out.below X1.K HB.out
  clear X0 Y0
  go_loopw [0, 11] (fun s0 s11 wr => ∃ (k : Nat) (ns M : List Nat), k ≤ 3 ∧ s11 = .int .i64 k ∧ nums (128 ^ 3) k L = some (ns, M) ∧ Bt wr B s0 M ∧ Own w wr w.heap.size zero3 ∧ RowF wr (w.heap.size + 1) 3 (fun j => (ns.getD j 0 : Nat)) ∧ w.heap.size + 1 < wr.heap.size) (fun _ s11 _ => 3 - (intOf s11).toNat)
  case atStart => exact ⟨0, [], L, by omega, rfl, rfl, hB1, X1, R1, hz1⟩
  case round =>
    clear X1 R1 hz1 hB1
    obtain ⟨k, ns, M, hk, rfl, hns, hM, X, R, hz⟩ := hrel
    have HNS := Lib.hid hns
    have hln := nums_len hns
    have HLN := Lib.hid hln
    have HM := Lib.hid hM
    have HX := Lib.hid X
    have HR := Lib.hid R
    clear hns hln hM X R
    by_cases hlt : k < 3
    · go_wp2_with fail
      refine (readNumber_any u0 M wr B HM.out (Nat.le_trans HB.out HX.out.K.size)).mono ?_
      rintro e w2 ⟨n, v2, ok, rfl, hb, hor⟩
      have HOR := Lib.hid hor
      have X2 := HX.out.step hb
      have HX2 := Lib.hid X2
      have R2 := HR.out.below hb hz
      have hz2 : w.heap.size + 1 < w2.heap.size := Nat.lt_of_lt_of_le hz hb.size
      obtain ⟨t0, f0⟩ := R2 k hlt
      have HR2 := Lib.hid R2
      have hC := X2.C
      have hF := X2.F
      clear hor X2 R2 hb HX HR HM
      cases ok
      · have hno : getRec L = none := by
          rw [getRec_nums (m := 128 ^ 3) (by decide), nums_none (k := k + 1) (nums_stop HNS.out (HOR.out.resolve_left (fun h => by cases h.1)).2) (by omega)]
          rfl
        have HNO := Lib.hid hno
        clear hno t0 f0
        go_wp2
        have X6 := ((HX2.out.set (Nat.le_refl _) (i := 0) (by decide) (.int .i64 0)).set (Nat.le_refl _) (i := 1) (by simp) (.int .i64 0)).set (Nat.le_refl _) (i := 2) (by simp) (.int .i64 0)
        have r6 := X6.C
        refine bodyPost_ret (v := .tuple #[recV ⟨0, 0, 0⟩, .slice none 0 0, .bool false]) ?_ rfl ⟨⟨0, 0, 0⟩, _, _, rfl, X6.K, .inr ⟨rfl, HNO.out⟩⟩
        simp [results, Tryd.results72, go_sem, r6, recV]
      · obtain ⟨R, hnum, hbt⟩ := (HOR.out.resolve_right (fun h => by cases h.1)).2
        have HNUM := Lib.hid hnum
        have HBT := Lib.hid hbt
        clear hnum hbt HOR
        go_wp2_with fail
        have hpb : w.heap.size ≤ w.heap.size + 1 := by omega
        have K7 : Below w.heap.size w2 (w2.setCell ⟨w.heap.size + 1, k, none⟩ (.int .i64 n)) := (Below.refl _ _).setCell hpb _
        refine ⟨⟨k + 1, ns ++ [n], R, by omega, by go_num, nums_step HNS.out HNUM.out, HBT.out.below K7 HB.out, HX2.out.far hpb (by show ¬ w.heap.size + 1 = w.heap.size; omega) _, ?_, by simpa [World.setCell] using hz2⟩, by simp [intOf]; omega⟩
        refine (HR2.out.set (i := k) n).congr fun j hj => ?_
        show (if j = k then (n : Int) else (ns.getD j 0 : Nat)) = ((ns ++ [n]).getD j 0 : Nat)
        rw [getD_snoc, HLN.out]
        by_cases e : j = k
        · rw [if_pos e, if_pos e]
        · rw [if_neg e, if_neg e]
    · obtain rfl : k = 3 := by omega
      have t0 : wr.cell? ⟨w.heap.size + 1, 0, none⟩ = some (.int .i64 (ns.getD 0 0 : Nat)) := (HR.out 0 (by omega)).1
      have t1 : wr.cell? ⟨w.heap.size + 1, 1, none⟩ = some (.int .i64 (ns.getD 1 0 : Nat)) := (HR.out 1 (by omega)).1
      have t2 : wr.cell? ⟨w.heap.size + 1, 2, none⟩ = some (.int .i64 (ns.getD 2 0 : Nat)) := (HR.out 2 (by omega)).1
      have HG : Hid (getRec L = if recOkB ⟨ns.getD 0 0, ns.getD 1 0, ns.getD 2 0⟩ then some (⟨ns.getD 0 0, ns.getD 1 0, ns.getD 2 0⟩, M) else none) := Lib.hid (by rw [getRec_nums (m := 128 ^ 3) (by decide), HNS.out]; rfl)
      generalize ns.getD 0 0 = n0 at *
      generalize ns.getD 1 0 = n1 at *
      generalize ns.getD 2 0 = n2 at *
      go_wp2_with fail
      have Y := Own.box2 HX.out.K #[.int .i64 n0, .int .i64 n1, .int .i64 n2] 30
      have X := HX.out.alloc (.cells #[.int .i64 n0, .int .i64 n1, .int .i64 n2] 30)
      have BM : Bt (wr.alloc (.cells #[.int .i64 n0, .int .i64 n1, .int .i64 n2] 30)) B u0 M := HM.out.below (Below.alloc (Below.refl _ _) (Nat.le_refl _) _) (Nat.le_trans HB.out HX.out.K.size)
      have HBM := Lib.hid BM
      have hgw0 : w.heap.size < wr.heap.size := HX.out.z
      clear t0 t1 t2 BM HX HR HM
      generalize wr.alloc (.cells #[.int .i64 n0, .int .i64 n1, .int .i64 n2] 30) = W at Y X HBM ⊢
      generalize wr.heap.size = g at Y hgw0 ⊢
      have hgw : w.heap.size < g := hgw0
      have HFIN : Hid (∀ wf, Below w.heap.size W wf → ((recOkB ⟨n0, n1, n2⟩ = true ∧ ∃ R, getRec L = some (⟨n0, n1, n2⟩, R) ∧ Bt wf B u0 R) ∨ (recOkB ⟨n0, n1, n2⟩ = false ∧ getRec L = none))) := Lib.hid fun wf hK => by
        cases hok : recOkB ⟨n0, n1, n2⟩
        · exact .inr ⟨rfl, by rw [HG.out, if_neg (by rw [hok]; decide)]⟩
        · exact .inl ⟨rfl, M, by rw [HG.out, if_pos hok], HBM.out.below hK HB.out⟩
      have hne1 : ¬ g = w.heap.size := by omega
      have hne2 : ¬ w.heap.size = g := by omega
      have hWsz := X.K.size
      have Yd := Y.step (Below.refl _ _).drew
      have Xd := X.step (Below.refl _ _).drew
      have NWd := Lib.hid (HN.out.go Xd.K)
      have XS := ((Xd.set (Nat.le_refl _) (i := 0) (by decide) (.int .i64 n0)).set (Nat.le_refl _) (i := 1) (by simp) (.int .i64 n1)).set (Nat.le_refl _) (i := 2) (by simp) (.int .i64 n2)
      have YS := ((Yd.far (p := ⟨w.heap.size, 0, none⟩) (Nat.le_refl _) hne2 (.int .i64 n0)).far (p := ⟨w.heap.size, 1, none⟩) (Nat.le_refl _) hne2 (.int .i64 n1)).far (p := ⟨w.heap.size, 2, none⟩) (Nat.le_refl _) hne2 (.int .i64 n2)
      have NWS := Lib.hid (HN.out.go XS.K)
      have q0 := Yd.C
      have c0 := Xd.C
      have f0 := Xd.F
      have HXd := Lib.hid Xd
      have HYd := Lib.hid Yd
      have HXS := Lib.hid XS
      have HYS := Lib.hid YS
      clear Xd Yd XS YS X Y
      go_region_law (first
        | (go_simp
           go_at_call 62
           refine (recOk_any ⟨n0, n1, n2⟩ _ NWd.out).mono ?_
           rintro e w5 ⟨rfl, hb5⟩
           have X5 := HXd.out.step hb5
           have K5 : Below w.heap.size W w5 := (Below.refl w.heap.size W).drew.trans (hb5.mono hWsz)
           have q5 := (HYd.out.step hb5).C
           have c5 := X5.C
           have f5 := X5.F)
        | (go_simp
           go_at_call 62
           refine (recOk_any ⟨n0, n1, n2⟩ _ NWS.out).mono ?_
           rintro e w5 ⟨rfl, hb5⟩
           have X5 := HXS.out.step hb5
           have K5 : Below w.heap.size W w5 := ((((Below.refl w.heap.size W).drew.setCell (p := ⟨w.heap.size, 0, none⟩) (Nat.le_refl _) (.int .i64 n0)).setCell (p := ⟨w.heap.size, 1, none⟩) (Nat.le_refl _) (.int .i64 n1)).setCell (p := ⟨w.heap.size, 2, none⟩) (Nat.le_refl _) (.int .i64 n2)).trans (hb5.mono (by simpa [World.setCell] using hWsz))
           have q5 := (HYS.out.step hb5).C
           have c5 := X5.C
           have f5 := X5.F))
      all_goals
        clear q5 c5 f5 q0 c0 f0
        go_wp2_with fail
        first
          | (have X6 := ((X5.set (Nat.le_refl _) (i := 0) (by decide) (.int .i64 n0)).set (Nat.le_refl _) (i := 1) (by simp) (.int .i64 n1)).set (Nat.le_refl _) (i := 2) (by simp) (.int .i64 n2)
             have K6 := ((K5.setCell (p := ⟨w.heap.size, 0, none⟩) (Nat.le_refl _) (.int .i64 n0)).setCell (p := ⟨w.heap.size, 1, none⟩) (Nat.le_refl _) (.int .i64 n1)).setCell (p := ⟨w.heap.size, 2, none⟩) (Nat.le_refl _) (.int .i64 n2)
             have r6 := X6.C
             refine bodyPost_ret (v := .tuple #[recV ⟨n0, n1, n2⟩, u0, .bool (recOkB ⟨n0, n1, n2⟩)]) ?_ rfl ⟨⟨n0, n1, n2⟩, u0, _, rfl, X6.K, HFIN.out _ K6⟩
             simp [results, Tryd.results72, go_sem, r6, recV])
          | (have r6 := X5.C
             refine bodyPost_ret (v := .tuple #[recV ⟨n0, n1, n2⟩, u0, .bool (recOkB ⟨n0, n1, n2⟩)]) ?_ rfl ⟨⟨n0, n1, n2⟩, u0, _, rfl, X5.K, HFIN.out _ K5⟩
             simp [results, Tryd.results72, go_sem, r6, recV])
end Go.Proofs.YtcpmkbemkhacnaaDoor
