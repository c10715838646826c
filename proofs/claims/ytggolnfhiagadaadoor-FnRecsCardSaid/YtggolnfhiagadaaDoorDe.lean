/-
  The model's draws of bytes; the draws of the law of records.
-/
import Derived.Test.YtggolnfhiagadaaDoorDd
import Derived.Test.YtggolnfhiagadaaDoorBd
set_option linter.unusedVariables false
namespace Go.Proofs.YtggolnfhiagadaaDoor
open Go.RowKit

theorem wroteN_le (l : List RecD) : (wroteN l).length ≤ 3 + 9 * l.length := by
  cases h : writeB l
  · rw [wroteN_no h]; simp
  · obtain ⟨h1, h2⟩ := writeB_true h
    rw [wroteN_yes h, List.length_append]
    have := recsN_len h2
    have := putN_len3 (n := l.length) (by omega)
    omega
/-- Behind a draw of bytes. -/
def DrawnBytes (g : Nat) (w : World) (e : Ending) (w' : World) : Prop :=
  ∃ v L, e = .returned v ∧ Bt w' w'.heap.size v L ∧ Keeps (· = g) w w'
theorem OB.keeps {S : Nat → Prop} {w w' : World} {B : Nat} {v : Value} {L : List Nat} (h : OB w B v L) (hk : Keeps S w w') (hS : ∀ r, B ≤ r → ¬ S r) : OB w' B v L := by
  obtain ⟨⟨hl, ho⟩, hs⟩ := h
  refine ⟨⟨hl, ho.imp id ?_⟩, hs⟩
  rintro ⟨g, cap, cur, hv, hb', hh, rest⟩
  exact ⟨g, cap, cur, hv, hb', (hk.block g (Array.getElem?_eq_some_iff.1 hh).1 (hS g hb')).trans hh, rest⟩
theorem getD_set (L : List Nat) (k j b : Nat) (hk : k < L.length) : (L.set k b).getD j 0 = if j = k then b else L.getD j 0 := by
  simp only [List.getD]
  by_cases e : j = k
  · subst e
    simp [hk]
  · rw [if_neg e, List.getElem?_set_ne (fun h => e h.symm)]
/-- A byte of a row stored anew. -/
theorem OB.stored {w : World} {B : Nat} {A : Option Addr} {n c : Nat} {L : List Nat} (h : OB w B (.slice A n c) L) {k b : Nat} (hk : k < L.length) (hb : b < 256) :
    ∃ s, A = some ⟨s, 0, none⟩ ∧ B ≤ s ∧ s < w.heap.size ∧ w.cell? ⟨s, k, none⟩ = some (.int .u8 (L.getD k 0 : Nat)) ∧ w.frozen? ⟨s, k, none⟩ = false ∧
      ∃ M, Bt (w.setCell ⟨s, k, none⟩ (.int .u8 (b : Int))) w.heap.size (.slice A n c) M := by
  have hl := h.len
  have hs := h.small
  obtain ⟨A', c', s, hv, hcap, hA, hB, hz, hc⟩ := h.open_
  injection hv with h1 h2 h3
  subst h1 h2 h3
  obtain rfl := hA (by omega)
  refine ⟨s, rfl, hB, hz (by omega), (hc k hk).1, (hc k hk).2, L.set k b, ⟨⟨some ⟨s, 0, none⟩, c, by rw [List.length_set], by rw [List.length_set]; exact hcap, fun _ => ⟨s, 0, rfl, hz (by omega), fun j hj => ?_⟩⟩, by rw [List.length_set]; exact hl, fun x hx => ?_⟩⟩
  · rw [List.length_set] at hj
    rw [Nat.zero_add, getD_set L k j b hk]
    by_cases e : j = k
    · subst e
      rw [if_pos rfl, World.cell?_setCell_same _ _ _ (hc j hj).1]
    · rw [if_neg e, World.cell?_setCell_other _ _ _ _ (fun he => e (by injection he with _ h2 _; exact h2.symm))]
      exact (hc j hj).1
  · rcases List.mem_or_eq_of_mem_set hx with h | h
    · exact hs x h
    · rw [h]; exact hb

set_option maxRecDepth 100000 in
set_option maxHeartbeats 4000000 in
theorem l3DrawBytes_any (g : Nat) (w : World) (h : Cur 69 .i64 w g) : Calls Tryd.prog 38 #[.pointer (some ⟨g, 0, none⟩)] w (DrawnBytes g w) := by
  have hl := h.lt
  obtain ⟨i0, hi, hz0, hz1, hz2⟩ := info_parts info_u8
  have HI := Lib.hid hi
  have HZ0 := Lib.hid hz0
  have HZ1 := Lib.hid hz1
  have HZ2 := Lib.hid hz2
  clear hi hz0 hz1 hz2
  go_enter Tryd.func38, Tryd.ntmps38
  go_wp2_with fail
  refine (l3DrawList_any g w h).mono ?_
  rintro e w1 ⟨v1, l, rfl, hll, O1, hc1, hk1⟩
  clear h
  go_wp2_with fail
  refine (specRecBytes_any _ l w1 O1.rt).mono ?_
  rintro e w2 ⟨v2, rfl, O2, hb2⟩
  have K2 := hk1.trans (Keeps.of_below hb2)
  have hc2 := hc1.below hb2
  have hg2 : g < w1.heap.size := hc1.lt
  have hβ : w.heap.size ≤ w1.heap.size := hk1.size
  have hs2 : w1.heap.size ≤ w2.heap.size := hb2.size
  have hL := Nat.le_trans (wroteN_le l) (show 3 + 9 * l.length ≤ 39 by omega)
  clear O1 hc1 hk1 hb2
  generalize wroteN l = L at *
  generalize w1.heap.size = β at *
  obtain ⟨A2, c2, s2, rfl, -⟩ := O2.open_
  have HO2 := Lib.hid O2
  clear O2
  generalize hq : L.length = q at *
  have HQ := Lib.hid hq
  clear hq
  by_cases hq0 : 0 < q
  · go_wp2_with fail
    refine (l1Once_any g 3 _ hc2 (by omega) (by omega)).mono ?_
    rintro e w3 ⟨b, rfl, hc3, hk3⟩
    have K3 := K2.trans hk3
    have HO3 := Lib.hid (HO2.out.keeps hk3 (by rintro r hr rfl; omega))
    have hs3 := Nat.le_trans hs2 hk3.size
    clear K2 HO2 hk3 hc2 hs2
    cases b
    · go_wp2_with fail
      go_ret
      exact ⟨_, L, rfl, HO3.out.bt, K3⟩
    · go_wp2_with fail
      refine (l1Below_any g 3 _ hc3 (by omega) (by omega)).mono ?_
      rintro e w4 ⟨x, rfl, x0, x1, hc4, hk4⟩
      have K4 := K3.trans hk4
      have HO4 := Lib.hid (HO3.out.keeps hk4 (by rintro r hr rfl; omega))
      have hs4 := Nat.le_trans hs3 hk4.size
      clear K3 HO3 hk4 hc3 hs3
      rcases (by omega : x = 0 ∨ x = 1 ∨ x = 2) with rfl | rfl | rfl
      · go_wp2_with fail
        refine (l1Below_any g q _ hc4 (by omega) (by omega)).mono ?_
        rintro e w5 ⟨k, rfl, k0, k1, hc5, hk5⟩
        obtain ⟨k, rfl⟩ := Int.eq_ofNat_of_zero_le k0
        have K5 := K4.trans hk5
        have HO5 := Lib.hid (HO4.out.keeps hk5 (by rintro r hr rfl; omega))
        clear K4 HO4 hk5 hc4
        go_wp2_with fail
        refine (l1Byte_any g _ hc5).mono ?_
        rintro e w6 ⟨z, rfl, z0, z1, hc6, hk6⟩
        obtain ⟨z, rfl⟩ := Int.eq_ofNat_of_zero_le z0
        have K6 := K5.trans hk6
        have O6 := HO5.out.keeps hk6 (by rintro r hr rfl; omega)
        obtain ⟨s, rfl, hB, hz, t0, f0, M, hM⟩ := O6.stored (k := k) (b := z) (by rw [HQ.out]; omega) (by omega)
        have HM := Lib.hid hM
        have HK6 := Lib.hid (K6.far (p := ⟨s, k, none⟩) (by show w.heap.size ≤ s; omega) (.int .u8 (z : Int)))
        clear O6 hM K5 HO5 hk6 K6
        go_wp2_with fail
        go_ret
        refine ⟨_, M, rfl, HM.out.more (by simp [World.setCell]), HK6.out⟩
      · go_wp2_with fail
        refine (l1Below_any g q _ hc4 (by omega) (by omega)).mono ?_
        rintro e w5 ⟨k, rfl, k0, k1, hc5, hk5⟩
        obtain ⟨k, rfl⟩ := Int.eq_ofNat_of_zero_le k0
        have K5 := K4.trans hk5
        have HO5 := Lib.hid (HO4.out.keeps hk5 (by rintro r hr rfl; omega))
        obtain ⟨A', c', s', hv, hcap, -⟩ := HO5.out.open_
        injection hv with hA _ hv
        subst hA hv
        rw [HQ.out] at hcap
        clear K4 HO4 hk5 hc4
        go_wp2_with fail
        go_ret
        have hB := HO5.out.bt
        refine ⟨_, L.take k, rfl, hB.take (by rw [HQ.out]; omega) (by omega), K5⟩
      · go_wp2_with fail
        refine (l1Below_any g 3 _ hc4 (by omega) (by omega)).mono ?_
        rintro e w5 ⟨z, rfl, z0, z1, hc5, hk5⟩
        obtain ⟨z, rfl⟩ := Int.eq_ofNat_of_zero_le z0
        have HK5 := Lib.hid (K4.trans hk5)
        have HO5 := Lib.hid (HO4.out.keeps hk5 (by rintro r hr rfl; omega))
        have HO8 : Hid (w5.ownsRow β 5 1 (.slice A2 q c2) L.length (L.map byteV)) := Lib.hid HO5.out.own
        have hs5 := Nat.le_trans hs4 hk5.size
        have h63 : Hid (L.length + 1 ≤ maxLen) := Lib.hid (by rw [HQ.out]; unfold maxLen; omega)
        have hby : Hid ((L.length + 1) * 1 ≤ 140737488355328) := Lib.hid (by rw [HQ.out]; omega)
        clear K4 HO4 hk5 hc4
        go_wp2_with ((at_builtin; refine wpList_append_own _ rfl _ _ 22 rfl β 5 i0 (.int .u8 0) 1 1 Tryd.underlying22 HI.out HZ0.out HZ1.out HZ2.out rfl (by decide) _ _ _ rfl (ownsRow_below HO8.out ((Below.refl _ _).alloc (Nat.le_refl _) _)) ⟨w5.heap.size, 0, none⟩ 1 1 [.int .u8 (z : Int)] rfl rfl (cell_one_new _ _ _) (fun x hx => by simp at hx; subst hx; rfl) h63.out hby.out (by simp; omega) ?_; intro v' w6 hown' hgrow hnil))
        go_ret
        exact ⟨_, _, rfl, (OB.push z HO5.out (by omega) hown').bt, (HK5.out.alloc _).grown hgrow (fun r hr => Nat.le_trans hβ (HO5.out.lt hr).1)⟩
  · go_wp2_with fail
    refine (l1Once_any g 3 _ hc2 (by omega) (by omega)).mono ?_
    rintro e w3 ⟨b, rfl, hc3, hk3⟩
    have K3 := K2.trans hk3
    have HO3 := Lib.hid (HO2.out.keeps hk3 (by rintro r hr rfl; omega))
    clear K2 HO2 hk3 hc2
    cases b
    all_goals
      go_wp2_with fail
      go_ret
      exact ⟨_, L, rfl, HO3.out.bt, K3⟩

/-- Bytes, made anew. -/
def GivesBt (w : World) (e : Ending) (w' : World) : Prop := ∃ v L, e = .returned v ∧ Bt w' w'.heap.size v L ∧ Below w.heap.size w w'
theorem drawReadRecs_any (A : Option Addr) (n c : Nat) (w : World) (hB : Bytes w w.heap.size A n) (hn : n ≤ 4096) :
    Calls Tryd.prog 13 #[.slice A n c] w (GivesBt w) := by
  have HB := Lib.hid hB
  clear hB
  go_enter Tryd.func13, Tryd.ntmps13
  go_wp2_with fail
  refine (l1New_any A n c w HB.out hn).mono ?_
  rintro e w1 ⟨g, rfl, hg, hc1, K1⟩
  go_wp2_with fail
  refine (l3DrawBytes_any g w1 hc1).mono ?_
  rintro e w2 ⟨v2, L, rfl, hB, hk2⟩
  go_wp2_with fail
  go_ret
  exact ⟨_, L, rfl, hB, K1.trans (hk2.below (B := w.heap.size) K1.size (by rintro b hb rfl; omega))⟩
/-- A record, whichever. -/
def GivesRec (w : World) (e : Ending) (w' : World) : Prop := ∃ r : RecD, e = .returned (recV r) ∧ Below w.heap.size w w'
set_option maxRecDepth 100000 in
set_option maxHeartbeats 4000000 in
theorem drawRecOk_any (A : Option Addr) (n c : Nat) (w : World) (hB : Bytes w w.heap.size A n) (hn : n ≤ 4096) :
    Calls Tryd.prog 15 #[.slice A n c] w (GivesRec w) := by
  have HB := Lib.hid hB
  clear hB
  have X0 := Blk.new w #[.int .i64 0, .int .i64 0, .int .i64 0] 33
  have K0 : Below w.heap.size w (w.alloc (.cells #[.int .i64 0, .int .i64 0, .int .i64 0] 33)) := (Below.refl _ _).alloc (Nat.le_refl _) _
  go_enter Tryd.func15, Tryd.ntmps15
  go_wp2_with fail
  refine (l1New_any A n c _ ((HB.out.below K0 (Nat.le_refl _)).more K0.size) hn).mono ?_
  rintro e w1 ⟨g, rfl, hg, hc1, K1⟩
  have X1 := X0.below K1
  have K1 := K0.trans (K1.mono K0.size)
  have hgr : w.heap.size < g := by simp at hg; omega
  clear X0
  go_wp2_with fail
  refine (l3DrawAny_any g w1 hc1).mono ?_
  rintro e w2 ⟨⟨rk, ra, rb⟩, rfl, hc2, hk2⟩
  have X2 := X1.keeps hk2 (by show ¬ w.heap.size = g; omega)
  have K2 := K1.trans (hk2.below (B := w.heap.size) K1.size (by rintro b hb rfl; omega))
  have X3 := ((X2.set (i := 0) (by decide) (.int .i64 rk)).set (i := 1) (by simp) (.int .i64 ra)).set (i := 2) (by simp) (.int .i64 rb)
  have K3 := ((K2.setCell (p := ⟨w.heap.size, 0, none⟩) (Nat.le_refl _) (.int .i64 rk)).setCell (p := ⟨w.heap.size, 1, none⟩) (Nat.le_refl _) (.int .i64 ra)).setCell (p := ⟨w.heap.size, 2, none⟩) (Nat.le_refl _) (.int .i64 rb)
  have q0 := X2.C
  have q1 := X2.F
  unfold recV
  dsimp only
  go_wp2_with fail
  have r9 := X3.C
  refine bodyPost_ret (v := recV ⟨rk, ra, rb⟩) ?_ rfl ⟨⟨rk, ra, rb⟩, rfl, K3⟩
  simp [results, Tryd.results15, go_sem, r9, recV]
end Go.Proofs.YtggolnfhiagadaaDoor
