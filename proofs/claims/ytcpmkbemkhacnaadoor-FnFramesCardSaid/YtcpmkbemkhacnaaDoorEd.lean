/-
  The model's ReadFrames, walked.
-/
import Derived.Test.YtcpmkbemkhacnaaDoorEc
import Derived.Deep.AppendLies
import Derived.StillTailTactics
set_option linter.unusedVariables false
namespace Go.Proofs.YtcpmkbemkhacnaaDoor
open Go.RowKit

set_option maxRecDepth 100000 in
set_option maxHeartbeats 4000000 in
theorem specReadFrames_any (v : Value) (L : List Nat) (w : World) (h : Bt w w.heap.size v L) (hsz : L.length ≤ 4194304) :
    Calls Tryd.prog 16 #[v] w (ReadAll L w) := by
  have H := Lib.hid h
  obtain ⟨⟨A, c, rfl, hcap, -⟩, hl, hs⟩ := h
  have HS := Lib.hid hs
  have HL := Lib.hid hl
  have hl' : L.length ≤ 4194304 := hsz
  clear hs hl hsz
  obtain ⟨i0, hi, hz0, hz1, hz2⟩ := info_parts info_recs
  have HI := Lib.hid hi
  have HZ0 := Lib.hid hz0
  have HZ1 := Lib.hid hz1
  have HZ2 := Lib.hid hz2
  clear hi hz0 hz1 hz2
  generalize hn : L.length = n at *
  have HN := Lib.hid hn
  clear hn
  go_enter Tryd.func16, Tryd.ntmps16
  go_wp2_with fail
  go_loopw [4, 5] (fun s4 s5 wr => ∃ (p : Nat) (done : List (List RecD)), s5 = .int .i64 p ∧ p ≤ n ∧ SoFar L p done ∧ OS wr w.heap.size s4 done ∧ Below w.heap.size w wr) (fun _ s5 _ => n - (intOf s5).toNat)
  case atStart => exact ⟨0, [], rfl, Nat.zero_le _, SoFar.start L, OS.empty (Nat.le_refl _), (Below.refl _ _).alloc (Nat.le_refl _) _⟩
  case round =>
    obtain ⟨p, done, rfl, hp, hsf, O, K⟩ := hrel
    have HSF := Lib.hid hsf
    have HO := Lib.hid O
    have HK := Lib.hid K
    clear hsf O K
    by_cases h4 : p + 4 ≤ n
    · go_wp2_with fail
      have HB := Lib.hid ((H.out.below HK.out (Nat.le_refl _)).more HK.out.size)
      refine (l4Of_any _ L p _ rfl wr HB.out (by rw [HN.out]; omega)).mono ?_
      rintro e w1 ⟨rfl, hb1⟩
      have HAT := Lib.hid (at2_drop L p 0)
      have hm := at2_lt HS.out p
      have HK1 := Lib.hid (HK.out.trans (hb1.mono HK.out.size))
      have HO1 := Lib.hid (HO.out.below hb1)
      clear HB hb1 HK HO
      rw [Nat.add_zero] at HAT
      generalize hmm : at2 L p = m at *
      have HM := Lib.hid hmm
      clear hmm
      by_cases h5 : p + 4 + m ≤ n
      · obtain ⟨b, off, rfl, hb, -⟩ := H.out.cell (k := p) (by rw [HN.out]; omega)
        have e4 : (L.drop p).drop 4 = L.drop (p + 4) := by rw [List.drop_drop]
        have HE1 : Hid (sumN ((L.drop (p + 4)).take m) ≠ at2 L (p + 2) → (framesN L).1 = done ∧ (framesN L).2 = p) := Lib.hid fun hh =>
          HSF.out.stop (getFrame_sum (by rw [HAT.out, at2_drop, e4]; exact hh))
        have HE2 : Hid (readN ((L.drop (p + 4)).take m) = none → (framesN L).1 = done ∧ (framesN L).2 = p) := Lib.hid fun hh =>
          HSF.out.stop (getFrame_bad (by rw [HAT.out, e4]; exact hh))
        have HE3 : Hid (∀ l, sumN ((L.drop (p + 4)).take m) = at2 L (p + 2) → readN ((L.drop (p + 4)).take m) = some l → SoFar L (p + (4 + m)) (done ++ [l])) := Lib.hid fun l h1 h2 =>
          HSF.out.step (by
            have := getFrame_good (L := L.drop p) (l := l) (by rw [HAT.out, List.length_drop, HN.out]; omega) (by rw [HAT.out, at2_drop, e4]; exact h1) (by rw [HAT.out, e4]; exact h2)
            rwa [HAT.out] at this)
        have HB : Hid (∀ Q, (¬ c = p + 4 → Q = some ⟨b, off + (p + 4), none⟩) → Bt w w.heap.size (.slice Q m (c - (p + 4))) ((L.drop (p + 4)).take m)) := Lib.hid fun Q hQ => by
          by_cases hc : c = p + 4
          · obtain rfl : m = 0 := by omega
            rw [List.take_zero]
            exact Bt.nil _ _ _ _
          · rw [hQ hc]
            exact (H.out.drop_at (k := p + 4) (A := some ⟨b, off + (p + 4), none⟩) (by omega) (fun _ => rfl)).take (k := m) (c' := c - (p + 4)) (by rw [List.length_drop, HN.out]; omega) (by omega)
        have HLB := Lib.hid ((H.out.below HK1.out (Nat.le_refl _)).more HK1.out.size)
        obtain ⟨vs, O0, SG⟩ := HO1.out
        have HO0 := Lib.hid O0
        have HSG := Lib.hid SG
        clear O0 SG e4 HSF
        generalize (L.drop (p + 4)).take m = M at *
        by_cases hc : c = p + 4
        · subst hc
          have HBT := Lib.hid (((HB.out (some ⟨b, off, none⟩) (fun h => absurd rfl h)).below HK1.out (Nat.le_refl _)).more HK1.out.size)
          rw [Nat.sub_self] at HBT
          clear HB
          go_wp2_with fail
          refine (specReadRecs_any _ M w1 HBT.out).mono ?_
          rintro e w2 ⟨v2, rfl, O2, hb2⟩
          have HBT2 := Lib.hid (HBT.out.go hb2)
          have HLB2 := Lib.hid (HLB.out.go hb2)
          have HH2 := Lib.hid hb2
          have HO2 := Lib.hid O2
          obtain ⟨A2, c2, g2, rfl, -⟩ := O2.open_
          clear O2 hb2 HBT HLB
          generalize hq : readN M = q at *
          clear hq
          go_wp2_with fail
          refine (specSumOf_any _ M w2 HBT2.out).mono ?_
          rintro e w3 ⟨rfl, rfl⟩
          go_wp2_with fail
          refine (l4Of_any _ L (p + 2) ((p : Int) + 2) (by omega) w2 HLB2.out (by rw [HN.out]; omega)).mono ?_
          rintro e w3 ⟨rfl, hb3⟩
          have HH3 := Lib.hid hb3
          have HK3 := Lib.hid ((HK1.out.trans (HH2.out.mono HK1.out.size)).trans (hb3.mono (HK1.out.trans (HH2.out.mono HK1.out.size)).size))
          clear hb3 HBT2 HLB2
          generalize sumN M = sm at *
          generalize at2 L (p + 2) = t at *
          by_cases hs : sm = t
          · subst hs
            cases q with
            | none =>
              have HC := Lib.hid (HE2.out rfl)
              go_wp2
              go_ret2
              exact ⟨_, ret_two rfl (int_eq (by rw [HC.out.2])), by rw [HC.out.1]; exact (HO1.out.below HH2.out).below HH3.out, HK3.out⟩
            | some l =>
              have HS3 := Lib.hid (HE3.out l rfl rfl)
              have h63 : Hid (done.length + 1 ≤ maxLen) := Lib.hid (by have := HS3.out.short; have := HS3.out.le; rw [HN.out] at this; simp at *; unfold maxLen; omega)
              have hby : Hid ((done.length + 1) * 24 ≤ 140737488355328) := Lib.hid (by have := HS3.out.short; have := HS3.out.le; rw [HN.out] at this; simp at *; omega)
              have hs3 := HK3.out.size
              have HR3 := Lib.hid (ownsRow_below (ownsRow_below HO0.out HH2.out) HH3.out)
              have HU3 := Lib.hid (HO2.out.below HH3.out)
              have HSG3 := Lib.hid ((HSG.out.below HH2.out).below HH3.out)
              have h13 := Lib.hid (Nat.le_trans HH2.out.size HH3.out.size)
              clear HE1 HE2 HE3 HH2 HH3 HO0 HO2 HSG HO1
              simp only [Option.getD_some] at HU3 ⊢
              go_wp2_with ((at_builtin; refine wpList_append_own _ rfl _ _ 27 rfl w.heap.size 31 i0 (.slice none 0 0) 1 24 Tryd.underlying27 HI.out HZ0.out HZ1.out HZ2.out rfl (by decide) _ _ _ rfl (ownsRow_below HR3.out ((Below.refl _ _).alloc (Nat.le_refl _) _)) ⟨w3.heap.size, 0, none⟩ 1 1 [.slice A2 l.length c2] rfl rfl (cell_one_new _ _ _) (fun x hx => by simp at hx; subst hx; rfl) h63.out hby.out (by simp; omega) ?_; intro v' w4 hown' hgrow hnil))
              refine ⟨⟨p + (4 + m), done ++ [l], int_eq (by omega), by omega, HS3.out, OS.push HR3.out HSG3.out h13.out HU3.out (((Keeps.of_below ((Below.refl _ _).alloc (Nat.le_refl _) _)).trans (Keeps.of_grown hgrow))) hown', (HK3.out.alloc hs3 _).grown hgrow (by simp; omega) fun r hr => (World.ownsRow.lt HR3.out r hr).1⟩, by simp [intOf]; omega⟩
          · have hne : ¬ (sm : Int) = (t : Int) := by omega
            have HC := Lib.hid (HE1.out hs)
            go_wp2
            go_ret2
            exact ⟨_, ret_two rfl (int_eq (by rw [HC.out.2])), by rw [HC.out.1]; exact (HO1.out.below HH2.out).below HH3.out, HK3.out⟩
        · have HBT := Lib.hid (((HB.out _ (fun _ => rfl)).below HK1.out (Nat.le_refl _)).more HK1.out.size)
          clear HB
          go_wp2_with fail
          refine (specReadRecs_any _ M w1 HBT.out).mono ?_
          rintro e w2 ⟨v2, rfl, O2, hb2⟩
          have HBT2 := Lib.hid (HBT.out.go hb2)
          have HLB2 := Lib.hid (HLB.out.go hb2)
          have HH2 := Lib.hid hb2
          have HO2 := Lib.hid O2
          obtain ⟨A2, c2, g2, rfl, -⟩ := O2.open_
          clear O2 hb2 HBT HLB
          generalize hq : readN M = q at *
          clear hq
          go_wp2_with fail
          refine (specSumOf_any _ M w2 HBT2.out).mono ?_
          rintro e w3 ⟨rfl, rfl⟩
          go_wp2_with fail
          refine (l4Of_any _ L (p + 2) ((p : Int) + 2) (by omega) w2 HLB2.out (by rw [HN.out]; omega)).mono ?_
          rintro e w3 ⟨rfl, hb3⟩
          have HH3 := Lib.hid hb3
          have HK3 := Lib.hid ((HK1.out.trans (HH2.out.mono HK1.out.size)).trans (hb3.mono (HK1.out.trans (HH2.out.mono HK1.out.size)).size))
          clear hb3 HBT2 HLB2
          generalize sumN M = sm at *
          generalize at2 L (p + 2) = t at *
          by_cases hs : sm = t
          · subst hs
            cases q with
            | none =>
              have HC := Lib.hid (HE2.out rfl)
              go_wp2
              go_ret2
              exact ⟨_, ret_two rfl (int_eq (by rw [HC.out.2])), by rw [HC.out.1]; exact (HO1.out.below HH2.out).below HH3.out, HK3.out⟩
            | some l =>
              have HS3 := Lib.hid (HE3.out l rfl rfl)
              have h63 : Hid (done.length + 1 ≤ maxLen) := Lib.hid (by have := HS3.out.short; have := HS3.out.le; rw [HN.out] at this; simp at *; unfold maxLen; omega)
              have hby : Hid ((done.length + 1) * 24 ≤ 140737488355328) := Lib.hid (by have := HS3.out.short; have := HS3.out.le; rw [HN.out] at this; simp at *; omega)
              have hs3 := HK3.out.size
              have HR3 := Lib.hid (ownsRow_below (ownsRow_below HO0.out HH2.out) HH3.out)
              have HU3 := Lib.hid (HO2.out.below HH3.out)
              have HSG3 := Lib.hid ((HSG.out.below HH2.out).below HH3.out)
              have h13 := Lib.hid (Nat.le_trans HH2.out.size HH3.out.size)
              clear HE1 HE2 HE3 HH2 HH3 HO0 HO2 HSG HO1
              simp only [Option.getD_some] at HU3 ⊢
              go_wp2_with ((at_builtin; refine wpList_append_own _ rfl _ _ 27 rfl w.heap.size 31 i0 (.slice none 0 0) 1 24 Tryd.underlying27 HI.out HZ0.out HZ1.out HZ2.out rfl (by decide) _ _ _ rfl (ownsRow_below HR3.out ((Below.refl _ _).alloc (Nat.le_refl _) _)) ⟨w3.heap.size, 0, none⟩ 1 1 [.slice A2 l.length c2] rfl rfl (cell_one_new _ _ _) (fun x hx => by simp at hx; subst hx; rfl) h63.out hby.out (by simp; omega) ?_; intro v' w4 hown' hgrow hnil))
              refine ⟨⟨p + (4 + m), done ++ [l], int_eq (by omega), by omega, HS3.out, OS.push HR3.out HSG3.out h13.out HU3.out (((Keeps.of_below ((Below.refl _ _).alloc (Nat.le_refl _) _)).trans (Keeps.of_grown hgrow))) hown', (HK3.out.alloc hs3 _).grown hgrow (by simp; omega) fun r hr => (World.ownsRow.lt HR3.out r hr).1⟩, by simp [intOf]; omega⟩
          · have hne : ¬ (sm : Int) = (t : Int) := by omega
            have HC := Lib.hid (HE1.out hs)
            go_wp2
            go_ret2
            exact ⟨_, ret_two rfl (int_eq (by rw [HC.out.2])), by rw [HC.out.1]; exact (HO1.out.below HH2.out).below HH3.out, HK3.out⟩
      · have hcut := HSF.out.stop (getFrame_cut (by rw [List.length_drop, HN.out, HAT.out]; omega))
        have HC := Lib.hid hcut
        clear hcut
        go_wp2
        go_ret2
        exact ⟨_, ret_two rfl (int_eq (by rw [HC.out.2])), by rw [HC.out.1]; exact HO1.out, HK1.out⟩
    · have hend := HSF.out.stop (getFrame_short (by rw [List.length_drop, HN.out]; omega))
      have HC := Lib.hid hend
      clear hend
      go_wp2
      go_ret2
      exact ⟨_, ret_two rfl (int_eq (by rw [HC.out.2])), by rw [HC.out.1]; exact HO.out, HK.out⟩
end Go.Proofs.YtcpmkbemkhacnaaDoor
