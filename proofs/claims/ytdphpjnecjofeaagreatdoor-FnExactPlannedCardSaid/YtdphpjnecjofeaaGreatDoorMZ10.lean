/-
  The model's chapter 10.
-/
import Derived.Test.YtdphpjnecjofeaaGreatDoorMZ1
import Derived.Test.YtdphpjnecjofeaaGreatDoorMZ0
import Derived.Deep.RegionHeld3
import Derived.Test.YtdphpjnecjofeaaGreatDoorMZ9
/- Pj -/
set_option linter.unusedVariables false
namespace Go.Proofs.YtdphpjnecjofeaaGreatDoor
open Go.RowKit

set_option maxRecDepth 100000 in
set_option maxHeartbeats 1000000 in
theorem numbersWith_any (pv : Value) (d : PlanD) (g n : Nat) (f : Nat → Int) (wanted : Int) (w : World) (h : IsPlan w w.heap.size pv d) (hn : n ≤ 1048576)
    (hg : ∀ (x y : Value) (wr : World), (callFunc g #[x, y]).run Tryz.prog wr = .ok (.enter g #[x, y]) wr)
    (H : Hid (∀ i, i < n → ∀ wr, Below w.heap.size w wr → Calls Tryz.prog g #[pv, .int .i64 i] wr fun e w' => e = .returned (.int .i64 (f i)) ∧ Below wr.heap.size wr w')) :
    Calls Tryz.prog 208 #[pv, .int .i64 n, .func (.func g) #[pv] #[], .int .i64 wanted] w (Listed w (found d n f wanted)) := by
  have HN := Lib.hid hn
  have hn' : n ≤ 2 ^ 63 - 1 := by omega
  clear hn
  have P := Lib.hid h
  obtain ⟨⟨A0, A1, A2, A3, c0, c1, c2, c3, rfl, -, -, -, -⟩, -, -, -, -⟩ := h
  obtain ⟨i0, hi, hz0, hz1, hz2⟩ := info_parts info_i64
  have HI := Lib.hid hi
  have HZ0 := Lib.hid hz0
  have HZ1 := Lib.hid hz1
  have HZ2 := Lib.hid hz2
  clear hi hz0 hz1 hz2
  go_enter Tryz.func208, Tryz.ntmps208
  go_wp2_with fail
  have X1 := (Own.box w (planC A0 A1 A2 A3 d.n0 c0 d.n1 c1 d.n2 c2 d.n3 c3 d.l d.p d.t) 47).alloc (.cells #[] 2)
  have O1 : ((w.alloc (.cells (planC A0 A1 A2 A3 d.n0 c0 d.n1 c1 d.n2 c2 d.n3 c3 d.l d.p d.t) 47)).alloc (.cells #[] 2)).ownsRow w.heap.size 2 1 (.slice (some ⟨w.heap.size + 1, 0, none⟩) 0 0) 0 [] := by
    have := World.ownsRow_made (base := w.heap.size) (e := 2) (size := 1) (w.alloc (.cells (planC A0 A1 A2 A3 d.n0 c0 d.n1 c1 d.n2 c2 d.n3 c3 d.l d.p d.t) 47)) #[] 0 (by simp) (Nat.zero_le _) rfl
    simpa using this
  refine (planOk_any _ d _ ((P.out.below X1.K (Nat.le_refl _)).more X1.K.size)).mono ?_
  rintro e w1 ⟨rfl, hb⟩
  have X2 := X1.step hb
  have O2 := ownsRow_below O1 hb
  clear X1 O1 hb
  cases hq : planOkB d
  · have HF := Lib.hid (found_no (n := n) (f := f) (wanted := wanted) hq)
    clear hq
    go_wp2
    go_ret
    exact ⟨_, rfl, by rw [HF.out]; exact O2, X2.K⟩
  · have HF := Lib.hid (found_yes (n := n) (f := f) (wanted := wanted) hq)
    clear hq
    have K2 := X2.K
    clear X2
    go_wp2
    go_loopw [9, 17] (fun v i wr => ∃ k : Nat, k ≤ n ∧ i = .int .i64 k ∧ wr.ownsRow w.heap.size 2 1 v (hits k f wanted).length ((hits k f wanted).map (Value.int .i64)) ∧ Below w.heap.size w wr) (fun _ i _ => n - (intOf i).toNat)
    case atStart => exact ⟨0, Nat.zero_le _, rfl, O2, K2⟩
    case round =>
      clear O2 K2
      obtain ⟨k, hk, rfl, O, K⟩ := hrel
      by_cases hlt : k < n
      · have hf := H.out k hlt _ K
        have hle := hits_le k f wanted
        have HO := Lib.hid O
        clear O
        cases hv : (f k == wanted)
        · have HV := Lib.hid (hits_no hv)
          go_wp2_with (refine hf.mono ?_; rintro e w3 ⟨rfl, hb3⟩)
          exact ⟨⟨k + 1, by omega, by go_num, by rw [HV.out]; exact ownsRow_below HO.out hb3, K.trans (hb3.mono K.size)⟩, by simp [intOf]; omega⟩
        · have HV := Lib.hid (hits_yes hv)
          have h63 : (hits k f wanted).length + 1 ≤ maxLen := by have := HN.out; unfold maxLen; omega
          have hby : ((hits k f wanted).length + 1) * 8 ≤ 140737488355328 := by have := HN.out; omega
          have H63 := Lib.hid h63
          have HBY := Lib.hid hby
          clear h63 hby
          go_wp2_with (first
            | (refine hf.mono ?_; rintro e w3 ⟨rfl, hb3⟩)
            | (at_builtin; refine wpList_append_own _ rfl _ _ 23 rfl w.heap.size 2 i0 (.int .i64 0) 1 8 Tryz.underlying23 HI.out HZ0.out HZ1.out HZ2.out rfl (by decide) _ _ _ rfl ((ownsRow_below HO.out hb3).alloc _) ⟨w3.heap.size, 0, none⟩ 1 1 [.int .i64 k] rfl rfl (cell_one_new _ _ _) (fun x hx => by simp at hx; subst hx; rfl) H63.out HBY.out (by have := K.size; have := hb3.size; simp; omega) ?_; intro v' w4 hown' hgrow hnil))
          have K3 : Below w.heap.size w (w3.alloc (.cells #[.int .i64 k] 2)) := (K.trans (hb3.mono K.size)).alloc (Nat.le_trans K.size hb3.size) _
          refine ⟨⟨k + 1, by omega, by go_num, ?_, K3.grown hgrow K3.size fun g hg => ((ownsRow_below HO.out hb3).lt g hg).1⟩, by simp [intOf]; omega⟩
          rw [HV.out]
          simpa using hown'
      · obtain rfl : k = n := by omega
        go_wp2
        go_ret
        exact ⟨_, rfl, by rw [HF.out]; exact O, K⟩
end Go.Proofs.YtdphpjnecjofeaaGreatDoor
/- PbG -/
set_option linter.unusedVariables false
namespace Go.Proofs.YtdphpjnecjofeaaGreatDoor
open Go.RowKit

set_option maxHeartbeats 400000 in
theorem groupOfPod_any (A0 A1 A2 A3 : Option Addr) (n0 c0 n1 c1 n2 c2 n3 c3 : Nat) (l p t : Int) (x0 : Nat → Int) (i : Nat) (w : World)
    (s0 : Sl w w.heap.size 4 A0 n0 x0) (hi : i < n0) (b0 : n0 ≤ maxLen) :
    Calls Tryz.prog 234 #[planV A0 A1 A2 A3 n0 c0 n1 c1 n2 c2 n3 c3 l p t, .int .i64 i] w fun e w' =>
      e = .returned (.int .i64 (x0 (i * 4))) ∧ Below w.heap.size w w' := by
  unfold maxLen at b0
  obtain ⟨b, off, rfl, hb, q0, q1, q2, q3⟩ := s0.cell4 hi
  clear s0
  go_enter Tryz.func234, Tryz.ntmps234
  go_wp2
  go_ret
  exact ⟨rfl, (Below.refl _ _).alloc (Nat.le_refl _) _⟩
end Go.Proofs.YtdphpjnecjofeaaGreatDoor
/- Pl -/
set_option linter.unusedVariables false
namespace Go.Proofs.YtdphpjnecjofeaaGreatDoor
open Go.RowKit

theorem enter_groupOfPod (x y : Value) (wr : World) : (callFunc 234 #[x, y]).run Tryz.prog wr = .ok (.enter 234 #[x, y]) wr := by simp [go_sem]
set_option maxRecDepth 100000 in
set_option maxHeartbeats 1000000 in
theorem implPodsIn_any (v : Value) (d : PlanD) (wanted : Int) (w : World) (h : IsPlan w w.heap.size v d) (hn : d.n0 ≤ 1048576) :
    Calls Tryz.prog 231 #[v, .int .i64 wanted] w (Listed w (found d d.n0 (fun i => d.x0 (i * 4)) wanted)) := by
  have P := Lib.hid h
  obtain ⟨⟨A0, A1, A2, A3, c0, c1, c2, c3, rfl, s0, s1, s2, s3⟩, b0, b1, b2, b3⟩ := h
  have S := Lib.hid s0
  have B := Lib.hid b0
  have HN := Lib.hid hn
  clear s0 s1 s2 s3 b0 b1 b2 b3 hn
  go_enter Tryz.func231, Tryz.ntmps231
  go_wp2_with fail
  have X1 := Own.box w (planC A0 A1 A2 A3 d.n0 c0 d.n1 c1 d.n2 c2 d.n3 c3 d.l d.p d.t) 47
  refine (numbersWith_any _ d _ d.n0 (fun i => d.x0 (i * 4)) wanted _ ((P.out.below X1.K (Nat.le_refl _)).more X1.K.size) HN.out enter_groupOfPod ?_).mono ?_
  · exact fun i hi wr hb => groupOfPod_any A0 A1 A2 A3 d.n0 c0 d.n1 c1 d.n2 c2 d.n3 c3 d.l d.p d.t d.x0 i wr ((S.out.below (X1.K.trans (hb.mono X1.K.size)) (Nat.le_refl _)).more (X1.K.trans (hb.mono X1.K.size)).size) hi B.out
  · intro e w2 hL
    obtain ⟨v', rfl, O, K⟩ := hL.back X1.K
    clear hL
    go_wp2_with fail
    go_ret
    exact ⟨_, rfl, O, K⟩

end Go.Proofs.YtdphpjnecjofeaaGreatDoor
/- Sc -/
set_option linter.unusedVariables false
namespace Go.Proofs.YtdphpjnecjofeaaGreatDoor
open Go.RowKit

set_option maxHeartbeats 400000 in
theorem bandOfPod_any (A0 A1 A2 A3 : Option Addr) (n0 c0 n1 c1 n2 c2 n3 c3 : Nat) (l p t : Int) (x0 : Nat → Int) (i : Nat) (w : World)
    (s0 : Sl w w.heap.size 4 A0 n0 x0) (hi : i < n0) (b0 : n0 ≤ maxLen) :
    Calls Tryz.prog 209 #[planV A0 A1 A2 A3 n0 c0 n1 c1 n2 c2 n3 c3 l p t, .int .i64 i] w fun e w' =>
      e = .returned (.int .i64 (x0 (i * 4 + 1))) ∧ Below w.heap.size w w' := by
  unfold maxLen at b0
  obtain ⟨b, off, rfl, hb, q0, q1, q2, q3⟩ := s0.cell4 hi
  clear s0
  go_enter Tryz.func209, Tryz.ntmps209
  go_wp2
  go_ret
  exact ⟨rfl, (Below.refl _ _).alloc (Nat.le_refl _) _⟩
theorem enter_bandOfPod (x y : Value) (wr : World) : (callFunc 209 #[x, y]).run Tryz.prog wr = .ok (.enter 209 #[x, y]) wr := by simp [go_sem]

set_option maxRecDepth 100000 in
set_option maxHeartbeats 1000000 in
theorem implPodsOf_any (v : Value) (d : PlanD) (wanted : Int) (w : World) (h : IsPlan w w.heap.size v d) (hn : d.n0 ≤ 1048576) :
    Calls Tryz.prog 185 #[v, .int .i64 wanted] w (Listed w (found d d.n0 (fun i => d.x0 (i * 4 + 1)) wanted)) := by
  have P := Lib.hid h
  obtain ⟨⟨A0, A1, A2, A3, c0, c1, c2, c3, rfl, s0, s1, s2, s3⟩, b0, b1, b2, b3⟩ := h
  have S := Lib.hid s0
  have B := Lib.hid b0
  have HN := Lib.hid hn
  clear s0 s1 s2 s3 b0 b1 b2 b3 hn
  go_enter Tryz.func185, Tryz.ntmps185
  go_wp2_with fail
  have X1 := Own.box w (planC A0 A1 A2 A3 d.n0 c0 d.n1 c1 d.n2 c2 d.n3 c3 d.l d.p d.t) 47
  refine (numbersWith_any _ d _ d.n0 (fun i => d.x0 (i * 4 + 1)) wanted _ ((P.out.below X1.K (Nat.le_refl _)).more X1.K.size) HN.out enter_bandOfPod ?_).mono ?_
  · exact fun i hi wr hb => bandOfPod_any A0 A1 A2 A3 d.n0 c0 d.n1 c1 d.n2 c2 d.n3 c3 d.l d.p d.t d.x0 i wr ((S.out.below (X1.K.trans (hb.mono X1.K.size)) (Nat.le_refl _)).more (X1.K.trans (hb.mono X1.K.size)).size) hi B.out
  · intro e w2 hL
    obtain ⟨v', rfl, O, K⟩ := hL.back X1.K
    clear hL
    go_wp2_with fail
    go_ret
    exact ⟨_, rfl, O, K⟩

set_option maxRecDepth 100000 in
set_option maxHeartbeats 2000000 in
theorem specPodsOf_any (v : Value) (d : PlanD) (wanted : Int) (w : World) (h : IsPlan w w.heap.size v d) (hn : d.n0 ≤ 1048576) :
    Calls Tryz.prog 199 #[v, .int .i64 wanted] w (Listed w (found d d.n0 (fun i => d.x0 (i * 4 + 1)) wanted)) := by
  have P := Lib.hid h
  obtain ⟨⟨A0, A1, A2, A3, c0, c1, c2, c3, rfl, s0, s1, s2, s3⟩, b0, b1, b2, b3⟩ := h
  have S := Lib.hid s0
  have HN := Lib.hid hn
  have hn' : d.n0 ≤ 2 ^ 63 - 1 := by omega
  clear s0 s1 s2 s3 b0 b1 b2 b3 hn
  obtain ⟨i0, hi, hz0, hz1, hz2⟩ := info_parts info_i64
  have HI := Lib.hid hi
  have HZ0 := Lib.hid hz0
  have HZ1 := Lib.hid hz1
  have HZ2 := Lib.hid hz2
  clear hi hz0 hz1 hz2
  go_enter Tryz.func199, Tryz.ntmps199
  go_wp2
  have X1 := (Own.box w (planC A0 A1 A2 A3 d.n0 c0 d.n1 c1 d.n2 c2 d.n3 c3 d.l d.p d.t) 47).alloc (.cells #[] 2)
  have O1 : ((w.alloc (.cells (planC A0 A1 A2 A3 d.n0 c0 d.n1 c1 d.n2 c2 d.n3 c3 d.l d.p d.t) 47)).alloc (.cells #[] 2)).ownsRow (w.heap.size + 1) 2 1 (.slice (some ⟨w.heap.size + 1, 0, none⟩) 0 0) 0 [] := by
    have := World.ownsRow_made (base := w.heap.size + 1) (e := 2) (size := 1) (w.alloc (.cells (planC A0 A1 A2 A3 d.n0 c0 d.n1 c1 d.n2 c2 d.n3 c3 d.l d.p d.t) 47)) #[] 0 (by simp) (Nat.zero_le _) rfl
    simpa using this
  go_loopw [5, 6] (fun v i wr => ∃ k : Nat, k ≤ d.n0 ∧ i = .int .i64 k ∧ (k = 0 ∨ planOkB d = true) ∧ wr.ownsRow (w.heap.size + 1) 2 1 v (hits k (fun i => d.x0 (i * 4 + 1)) wanted).length ((hits k (fun i => d.x0 (i * 4 + 1)) wanted).map (Value.int .i64)) ∧
    Own w wr w.heap.size (planC A0 A1 A2 A3 d.n0 c0 d.n1 c1 d.n2 c2 d.n3 c3 d.l d.p d.t)) (fun _ i _ => d.n0 - (intOf i).toNat)
  case atStart => exact ⟨0, Nat.zero_le _, rfl, .inl rfl, O1, X1⟩
  case round =>
    clear O1 X1
    obtain ⟨k, hk, rfl, hor, O, X⟩ := hrel
    have HR := Lib.hid hor
    have HO := Lib.hid O
    clear hor O
    have hC := X.C
    have hz := X.z
    by_cases hlt : k < d.n0
    · cases hq : planOkB d
      · have HQ := Lib.hid hq
        go_wp2_with (go_at_call 92; refine (spec_planOk_any _ d _ ((P.out.below X.K (Nat.le_refl _)).more X.K.size)).mono ?_; rintro e w2 ⟨rfl, hb2⟩; have X2 := X.step hb2)
        go_ret
        refine ⟨_, rfl, ?_, X2.K⟩
        have hk0 : k = 0 := HR.out.resolve_right (by rw [HQ.out]; decide)
        rw [found_no HQ.out]
        have := ownsRow_base (ownsRow_below HO.out hb2) (Nat.le_succ _)
        rw [hk0] at this
        exact this
      · have HQ := Lib.hid hq
        have hle := hits_le k (fun i => d.x0 (i * 4 + 1)) wanted
        have h63 : (hits k (fun i => d.x0 (i * 4 + 1)) wanted).length + 1 ≤ maxLen := by have := HN.out; unfold maxLen; omega
        have hby : ((hits k (fun i => d.x0 (i * 4 + 1)) wanted).length + 1) * 8 ≤ 140737488355328 := by have := HN.out; omega
        have H63 := Lib.hid h63
        have HBY := Lib.hid hby
        clear h63 hby hle
        obtain ⟨b, off, rfl, hb, q0, q1, q2, q3⟩ := (S.out.own X).cell4 hlt
        cases hv : (d.x0 (k * 4 + 1) == wanted)
        · have HV := Lib.hid (hits_no (f := fun i => d.x0 (i * 4 + 1)) hv)
          go_wp2_with (go_at_call 92; refine (spec_planOk_any _ d _ ((P.out.below X.K (Nat.le_refl _)).more X.K.size)).mono ?_; rintro e w2 ⟨rfl, hb2⟩; have X2 := X.step hb2; have hC2 := X2.C; have hD2 := (bcell hb2).1)
          refine ⟨⟨k + 1, by omega, by go_num, .inr (by first | exact HQ.out | trivial), by rw [HV.out]; exact ownsRow_below HO.out hb2, X2⟩, by simp [intOf]; omega⟩
        · have HV := Lib.hid (hits_yes (f := fun i => d.x0 (i * 4 + 1)) hv)
          go_wp2_with (first
            | (go_at_call 92; refine (spec_planOk_any _ d _ ((P.out.below X.K (Nat.le_refl _)).more X.K.size)).mono ?_; rintro e w2 ⟨rfl, hb2⟩; have X2 := X.step hb2; have hC2 := X2.C; have hD2 := (bcell hb2).1)
            | (at_builtin; refine wpList_append_own _ rfl _ _ 23 rfl (w.heap.size + 1) 2 i0 (.int .i64 0) 1 8 Tryz.underlying23 HI.out HZ0.out HZ1.out HZ2.out rfl (by decide) _ _ _ rfl ((ownsRow_below HO.out hb2).alloc _) ⟨w2.heap.size, 0, none⟩ 1 1 [.int .i64 k] rfl rfl (cell_one_new _ _ _) (fun x hx => by simp at hx; subst hx; rfl) H63.out HBY.out (by have := X2.z; simp; omega) ?_; intro v' w4 hown' hgrow hnil))
          have X3 := X2.alloc (.cells #[.int .i64 k] 2)
          have OB := (ownsRow_below HO.out hb2)
          refine ⟨⟨k + 1, by omega, by go_num, .inr (by first | exact HQ.out | trivial), ?_, ?_⟩, by simp [intOf]; omega⟩
          · rw [HV.out]
            simpa using hown'
          · exact X3.grown hgrow fun g hg => by have := (OB.lt g hg).1; omega
    · obtain rfl : k = d.n0 := by omega
      go_wp2
      go_ret
      refine ⟨_, rfl, ?_, X.K⟩
      have := ownsRow_base HO.out (Nat.le_succ _)
      rcases HR.out with h0 | h1
      · cases hq : planOkB d
        · rw [found_no hq]
          rw [h0] at this
          exact this
        · rw [found_yes hq]; exact this
      · rw [found_yes h1]; exact this

theorem implPods_any (v : Value) (d : PlanD) (b : Int) (w : World) (h : IsPlan w w.heap.size v d) (hn : d.n0 ≤ 1048576) :
    Calls Tryz.prog 185 #[v, .int .i64 b] w (Listed w (podsL d b)) := implPodsOf_any v d b w h hn
theorem specPods_any (v : Value) (d : PlanD) (b : Int) (w : World) (h : IsPlan w w.heap.size v d) (hn : d.n0 ≤ 1048576) :
    Calls Tryz.prog 199 #[v, .int .i64 b] w (Listed w (podsL d b)) := specPodsOf_any v d b w h hn
end Go.Proofs.YtdphpjnecjofeaaGreatDoor
/- Sd -/
set_option linter.unusedVariables false
namespace Go.Proofs.YtdphpjnecjofeaaGreatDoor
open Go.RowKit

theorem rise_unique : ∀ {L M : List Int}, L.Pairwise (· < ·) → M.Pairwise (· < ·) → (∀ x, x ∈ L ↔ x ∈ M) → L = M
  | [], [], _, _, _ => rfl
  | [], b :: M, _, _, h => by have := (h b).2 (by simp); cases this
  | a :: L, [], _, _, h => by have := (h a).1 (by simp); cases this
  | a :: L, b :: M, hL, hM, h => by
    have hL' := List.pairwise_cons.1 hL
    have hM' := List.pairwise_cons.1 hM
    have hab : a = b := by
      have h1 := (h a).1 (by simp)
      have h2 := (h b).2 (by simp)
      rcases List.mem_cons.1 h1 with e | e
      · exact e
      · rcases List.mem_cons.1 h2 with e2 | e2
        · exact e2.symm
        · have := hM'.1 a e
          have := hL'.1 b e2
          omega
    subst hab
    congr 1
    refine rise_unique hL'.2 hM'.2 fun x => ⟨fun hx => ?_, fun hx => ?_⟩
    · have := hL'.1 x hx
      rcases List.mem_cons.1 ((h x).1 (by simp [hx])) with e | e
      · omega
      · exact e
    · have := hM'.1 x hx
      rcases List.mem_cons.1 ((h x).2 (by simp [hx])) with e | e
      · omega
      · exact e

theorem dd_mem {x : Nat → Int} {v : Int} : ∀ {m : Nat}, v ∈ dd x m ↔ ∃ j, j < m ∧ x j = v
  | 0 => by simp [dd]
  | m + 1 => by
    by_cases h : m = 0 ∨ x m ≠ x (m - 1)
    · rw [dd_new h, List.mem_append, dd_mem (m := m), List.mem_singleton]
      refine ⟨?_, fun ⟨j, hj, e⟩ => ?_⟩
      · rintro (⟨j, hj, e⟩ | e)
        · exact ⟨j, by omega, e⟩
        · exact ⟨m, by omega, e.symm⟩
      · by_cases e2 : j = m
        · subst e2; exact .inr e.symm
        · exact .inl ⟨j, by omega, e⟩
    · rw [dd_old (by omega) (by omega), dd_mem (m := m)]
      refine ⟨fun ⟨j, hj, e⟩ => ⟨j, by omega, e⟩, fun ⟨j, hj, e⟩ => ?_⟩
      by_cases e2 : j = m
      · subst e2
        exact ⟨j - 1, by omega, by rw [← e]; omega⟩
      · exact ⟨j, by omega, e⟩
theorem dd_rise {x : Nat → Int} {n : Nat} (h : Rises x n) : ∀ {m : Nat}, m ≤ n → (dd x m).Pairwise (· < ·)
  | 0, _ => List.Pairwise.nil
  | m + 1, hm => by
    have ih := dd_rise h (m := m) (by omega)
    by_cases hn : m = 0 ∨ x m ≠ x (m - 1)
    · rw [dd_new hn, List.pairwise_append]
      refine ⟨ih, List.pairwise_singleton _ _, fun a ha b hb => ?_⟩
      obtain rfl := List.mem_singleton.1 hb
      obtain ⟨j, hj, rfl⟩ := dd_mem.1 ha
      have h1 := h (m - 1) m (by omega) (by omega)
      by_cases e : j = m - 1
      · rw [e]; omega
      · have h2 := h j (m - 1) (by omega) (by omega)
        omega
    · rw [dd_old (by omega) (by omega)]
      exact ih

theorem picks_mem_iff {n : Nat} {p : Nat → Bool} {x : Int} : x ∈ picks n p ↔ ∃ i : Nat, i < n ∧ x = i ∧ p i = true := by
  refine ⟨picks_mem, ?_⟩
  rintro ⟨i, h1, rfl, h2⟩
  simp only [picks, List.mem_map, List.mem_filter, List.mem_range]
  exact ⟨i, ⟨h1, h2⟩, rfl⟩
/-- Numbers that rise, made of the pods' bands, without repeats: the chapter's list. -/
theorem rising_bands {d : PlanD} (h : planOkB d = true) {y : Nat → Int} (hS : Same d.n0 (fun i => d.x0 (i * 4 + 1)) y) (hR : Rises y d.n0) : dd y d.n0 = bandsL d := by
  refine rise_unique (dd_rise hR (Nat.le_refl _)) (bandsL_rise d) fun v => ?_
  rw [dd_mem]
  unfold bandsL
  rw [picks_mem_iff]
  constructor
  · rintro ⟨k, hk, rfl⟩
    obtain ⟨i, hi, e⟩ := hS.back k hk
    have hb := planOk_band h hi
    have e : y k = d.x0 (i * 4 + 1) := e
    rw [e]
    refine ⟨(d.x0 (i * 4 + 1)).toNat, by omega, by omega, ?_⟩
    simp only [hasB, decide_eq_true_eq]
    unfold podsL
    rw [found_yes h]
    refine List.length_pos_of_mem (a := (i : Int)) ?_
    rw [hits_picks, picks_mem_iff]
    exact ⟨i, hi, rfl, by simp; omega⟩
  · rintro ⟨b, hb, rfl, hp⟩
    simp only [hasB, decide_eq_true_eq] at hp
    obtain ⟨v, hv⟩ := List.exists_mem_of_length_pos hp
    obtain ⟨i, hi, _, e⟩ := podsL_mem hv
    obtain ⟨k, hk, ek⟩ := hS.there i hi
    exact ⟨k, hk, ek.trans e⟩
theorem bandsL_no {d : PlanD} (h : planOkB d = false) : bandsL d = [] := by
  refine List.eq_nil_iff_forall_not_mem.2 fun x hx => ?_
  obtain ⟨i, _, _, hp⟩ := picks_mem hx
  simp only [hasB, decide_eq_true_eq] at hp
  unfold podsL at hp
  rw [found_no h] at hp
  exact absurd hp (by decide)

theorem Cells.owns {w : World} {g n : Nat} {y : Nat → Int} {L : List Int} (h : Cells w g n y) (hn : n ≤ 12) (hl : L.length ≤ n) (hL : ∀ j, j < L.length → y j = L.getD j 0) :
    w.ownsRow g 2 1 (.slice (some ⟨g, 0, none⟩) L.length n) L.length (L.map (Value.int .i64)) := by
  obtain ⟨cur, hh, hs, hc⟩ := h
  refine ⟨by simp, .inr ⟨g, n, cur, rfl, Nat.le_refl _, hh, hl, by unfold maxLen; omega, by omega, ?_⟩⟩
  rw [Nat.mul_one]
  refine List.ext_getElem? fun j => ?_
  by_cases hj : j < L.length
  · rw [List.getElem?_take_of_lt hj, Array.getElem?_toList, hc j (by omega), hL j hj]
    simp [List.getD, hj]
  · rw [List.getElem?_take_eq_none (by omega), List.getElem?_eq_none (by simp; omega)]

set_option maxRecDepth 100000 in
set_option maxHeartbeats 1000000 in
/-- The program's rising list, made in the list's own block. -/
theorem rising_any (d : PlanD) (g : Nat) (w : World) (hq : planOkB d = true) (hX : Cells w g d.n0 (fun i => d.x0 (i * 4 + 1))) :
    Calls Tryz.prog 221 #[.slice (some ⟨g, 0, none⟩) d.n0 d.n0] w fun e w' =>
      ∃ v, e = .returned v ∧ w'.ownsRow g 2 1 v (bandsL d).length ((bandsL d).map (Value.int .i64)) ∧ Keeps (· = g) w w' := by
  have hn := (planOk_lock hq).2.2.1
  have HQ := Lib.hid hq
  have HX := Lib.hid hX
  clear hq hX
  go_enter Tryz.func221, Tryz.ntmps221
  go_wp2_with fail
  refine (sort_any g d.n0 _ _ HX.out hn).mono ?_
  rintro e w1 ⟨rfl, y, hY, hS, hR, hK⟩
  have hb := rising_bands HQ.out hS hR
  have hc := compact_any g d.n0 y w1 hY hn
  unfold Compacted at hc
  have hle := dd_le y d.n0
  rw [hb] at hc hle
  have HC := Lib.hid hc
  have HK := Lib.hid hK
  clear hb hc hY hS hR hK
  go_wp2_with fail
  refine HC.out.mono ?_
  rintro e w2 ⟨rfl, z, hZ, hz, hK2⟩
  have HO := Lib.hid (hZ.owns hn hle hz)
  have HK2 := Lib.hid (HK.out.trans hK2)
  clear hZ hz hK2
  go_wp2_with fail
  go_ret
  exact ⟨_, rfl, HO.out, HK2.out⟩
end Go.Proofs.YtdphpjnecjofeaaGreatDoor
/- Se -/
set_option linter.unusedVariables false
namespace Go.Proofs.YtdphpjnecjofeaaGreatDoor
open Go.RowKit Go.Sort

/-- Block g, of n whole numbers, is being filled: the first k are as f tells. -/
structure Filling (wr : World) (g n k : Nat) (f : Nat → Int) : Prop where
  it : ∃ cur, wr.heap[g]? = some (.cells cur 2 (0, 0)) ∧ cur.size = n ∧ ∀ j, j < k → cur[j]? = some (.int .i64 (f j))
theorem Filling.lt {wr : World} {g n k : Nat} {f : Nat → Int} (h : Filling wr g n k f) : g < wr.heap.size := by
  obtain ⟨cur, hh, _⟩ := h
  exact (Array.getElem?_eq_some_iff.1 hh).1
theorem Filling.below {wr w' : World} {g n k : Nat} {f : Nat → Int} (h : Filling wr g n k f) (hb : Below wr.heap.size wr w') : Filling w' g n k f := by
  have hl := h.lt
  obtain ⟨cur, hh, r⟩ := h
  exact ⟨cur, (hb.block g hl).trans hh, r⟩
theorem Filling.at_ {wr : World} {g n k i : Nat} {f : Nat → Int} (h : Filling wr g n k f) (hi : i < n) : ∃ v, wr.cell? ⟨g, i, none⟩ = some v ∧ wr.frozen? ⟨g, i, none⟩ = false := by
  obtain ⟨cur, hh, hs, _⟩ := h
  exact ⟨cur[i]'(by omega), (cell_of_row _ _ _ _ _ _ hh).trans (Array.getElem?_eq_getElem (by omega)), frozen_of_row _ _ _ _ _ hh⟩
theorem Filling.set {wr : World} {g n k : Nat} {f : Nat → Int} (h : Filling wr g n k f) (hk : k < n) : Filling (wr.setCell ⟨g, k, none⟩ (.int .i64 (f k))) g n (k + 1) f := by
  obtain ⟨cur, hh, hs, hc⟩ := h
  refine ⟨cur.setIfInBounds k (.int .i64 (f k)), ?_, by simp [hs], fun j hj => ?_⟩
  · rw [setCell_eq]
    simp [mapBlock, Array.getElem?_modify, hh, onCells]
  · by_cases e : j = k
    · subst e
      simp [hs, hk]
    · rw [Array.getElem?_setIfInBounds_ne (fun he => e he.symm)]
      exact hc j (by omega)
theorem Filling.full {wr : World} {g n : Nat} {f : Nat → Int} (h : Filling wr g n n f) : Cells wr g n f := ⟨h.it⟩
theorem made_emptyI (w : World) {B : Nat} (hB : B ≤ w.heap.size) : (w.alloc (.cells #[] 2)).ownsRow B 2 1 (.slice (some ⟨w.heap.size, 0, none⟩) 0 0) 0 [] := by
  have := World.ownsRow_made (base := B) (e := 2) (size := 1) w #[] 0 hB (Nat.zero_le _) rfl
  simpa using this
theorem filling_new {w : World} {B g n : Nat} {f : Nat → Int} {xs : List Value} (h : w.ownsRow B 2 1 (.slice (some ⟨g, 0, none⟩) n n) n xs) : B ≤ g ∧ Filling w g n 0 f := by
  rcases h.2 with ⟨h1, _⟩ | ⟨g', cap, cur, h1, hb, h2, h3, h4, h5, h6⟩
  · cases h1
  · injection h1 with h1 _ h7
    injection h1 with h1
    injection h1 with h1 _ _
    subst h1 h7
    exact ⟨hb, cur, h2, by omega, fun j hj => absurd hj (by omega)⟩

set_option maxRecDepth 100000 in
set_option maxHeartbeats 2000000 in
theorem implBands_any (v : Value) (d : PlanD) (w : World) (h : IsPlan w w.heap.size v d) :
    Calls Tryz.prog 202 #[v] w (Listed w (bandsL d)) := by
  have P := Lib.hid h
  obtain ⟨⟨A0, A1, A2, A3, c0, c1, c2, c3, rfl, s0, s1, s2, s3⟩, b0, b1, b2, b3⟩ := h
  have S := Lib.hid s0
  have B := Lib.hid b0
  clear s0 s1 s2 s3 b0 b1 b2 b3
  obtain ⟨i0, hi, hz0, hz1, hz2⟩ := info_parts info_i64
  go_enter Tryz.func202, Tryz.ntmps202
  go_wp2_with fail
  have X1 := Own.box w (planC A0 A1 A2 A3 d.n0 c0 d.n1 c1 d.n2 c2 d.n3 c3 d.l d.p d.t) 47
  refine (planOk_any _ d _ ((P.out.below X1.K (Nat.le_refl _)).more X1.K.size)).mono ?_
  rintro e w2 ⟨rfl, hb⟩
  have X2 := X1.step hb
  clear X1 hb
  have hC := X2.C
  cases hq : planOkB d
  · have HF := Lib.hid (bandsL_no hq)
    clear hq
    go_wp2
    go_ret
    refine ⟨_, rfl, ?_, (X2.alloc (.cells #[] 2)).K⟩
    rw [HF.out]
    exact made_emptyI w2 X2.K.size
  · have HQ := Lib.hid hq
    have hn12 : d.n0 ≤ 12 := (planOk_lock hq).2.2.1
    clear hq
    have hz := X2.K.size
    have hz' := X2.z
    go_wp2_with (at_make; refine wpList_make_full _ rfl _ _ 23 rfl (w.heap.size + 1) 2 i0 (.int .i64 0) 1 Tryz.underlying23 hi hz0 hz1 _ _ _ _ d.n0 rfl rfl rfl rfl ?b2 ?b3 (by omega) ?_)
    case b2 => rw [hz2]; omega
    case b3 => unfold maxLen; omega
    intro w3 hown hgrow
    obtain ⟨hg, F3⟩ := filling_new (f := fun i => d.x0 (i * 4 + 1)) hown
    have X3 : Own w w3 w.heap.size _ := X2.grown hgrow (fun r hr => by cases hr)
    generalize w2.heap.size = g at hg F3 ⊢
    clear hown hgrow hz0 hz1 hz2 hi hC X2 hz hz'
    go_wp2
    go_loopw [15] (fun i wr => ∃ k : Nat, k ≤ d.n0 ∧ i = .int .i64 k ∧ Own w wr w.heap.size (planC A0 A1 A2 A3 d.n0 c0 d.n1 c1 d.n2 c2 d.n3 c3 d.l d.p d.t) ∧ Filling wr g d.n0 k (fun i => d.x0 (i * 4 + 1))) (fun i _ => d.n0 - (intOf i).toNat)
    case atStart => exact ⟨0, Nat.zero_le _, rfl, X3, F3⟩
    case round =>
      clear X3 F3
      obtain ⟨k, hk, rfl, X, F⟩ := hrel
      have hC := X.C
      have hz := X.z
      by_cases hlt : k < d.n0
      · go_wp2_with (go_at_call 209; refine (bandOfPod_any A0 A1 A2 A3 d.n0 c0 d.n1 c1 d.n2 c2 d.n3 c3 d.l d.p d.t d.x0 k _ (S.out.own X) hlt B.out).mono ?_; rintro e w4 ⟨rfl, hb4⟩; have X4 := X.step hb4; have F4 := F.below hb4; obtain ⟨v0, t0, f0⟩ := F4.at_ hlt; clear hb4)
        exact ⟨⟨k + 1, by omega, by go_num, X4.far (p := ⟨g, k, none⟩) (by show w.heap.size ≤ g; omega) (by show g ≠ w.heap.size; omega) _, F4.set hlt⟩, by simp [intOf]; omega⟩
      · obtain rfl : k = d.n0 := by omega
        have HR := Lib.hid (rising_any d g wr HQ.out F.full)
        go_wp2_with fail
        refine HR.out.mono ?_
        rintro e w5 ⟨v', rfl, O5, K5⟩
        have HO := Lib.hid O5
        have HK := Lib.hid K5
        clear O5 K5
        go_wp2_with fail
        go_ret
        exact ⟨_, rfl, ownsRow_base HO.out (by omega), X.K.trans (HK.out.below X.K.size (fun b hb e => by omega))⟩

set_option maxRecDepth 100000 in
set_option maxHeartbeats 2000000 in
theorem specBands_any (v : Value) (d : PlanD) (w : World) (h : IsPlan w w.heap.size v d) (hn : d.n0 ≤ 1048576) :
    Calls Tryz.prog 165 #[v] w (Listed w (bandsL d)) := by
  have P := Lib.hid h
  have HN := Lib.hid hn
  obtain ⟨⟨A0, A1, A2, A3, c0, c1, c2, c3, rfl, s0, s1, s2, s3⟩, b0, b1, b2, b3⟩ := h
  clear s0 s1 s2 s3 b0 b1 b2 b3 hn
  obtain ⟨i0, hi, hz0, hz1, hz2⟩ := info_parts info_i64
  have HI := Lib.hid hi
  have HZ0 := Lib.hid hz0
  have HZ1 := Lib.hid hz1
  have HZ2 := Lib.hid hz2
  clear hi hz0 hz1 hz2
  go_enter Tryz.func165, Tryz.ntmps165
  go_wp2
  have X1 := (Own.box w (planC A0 A1 A2 A3 d.n0 c0 d.n1 c1 d.n2 c2 d.n3 c3 d.l d.p d.t) 47).alloc (.cells #[] 2)
  have O1 := made_emptyI (w.alloc (.cells (planC A0 A1 A2 A3 d.n0 c0 d.n1 c1 d.n2 c2 d.n3 c3 d.l d.p d.t) 47)) (B := w.heap.size + 1) (by simp)
  rw [heap_size_alloc_] at O1
  go_loopw [3, 4] (fun v i wr => ∃ k : Nat, k ≤ 6 ∧ i = .int .i64 k ∧ wr.ownsRow (w.heap.size + 1) 2 1 v (picks k (hasB d)).length ((picks k (hasB d)).map (Value.int .i64)) ∧
    Own w wr w.heap.size (planC A0 A1 A2 A3 d.n0 c0 d.n1 c1 d.n2 c2 d.n3 c3 d.l d.p d.t)) (fun _ i _ => 6 - (intOf i).toNat)
  case atStart => exact ⟨0, Nat.zero_le _, rfl, O1, X1⟩
  case round =>
    clear O1 X1
    obtain ⟨k, hk, rfl, O, X⟩ := hrel
    have HO := Lib.hid O
    clear O
    have hC := X.C
    have hz := X.z
    by_cases hlt : k < 6
    · have hle := picks_le k (hasB d)
      have h63 : (picks k (hasB d)).length + 1 ≤ maxLen := by unfold maxLen; omega
      have hby : ((picks k (hasB d)).length + 1) * 8 ≤ 140737488355328 := by omega
      have H63 := Lib.hid h63
      have HBY := Lib.hid hby
      clear h63 hby hle
      have hp := Lib.hid (specPods_any _ d k _ ((P.out.below X.K (Nat.le_refl _)).more X.K.size) HN.out)
      have hl0 := podsL_le d k
      have hl1 := HN.out
      have hl : (podsL d k).length ≤ 1048576 := by omega
      clear hl0 hl1
      cases hv : hasB d k
      · have HV := Lib.hid (picks_no hv)
        simp only [hasB, decide_eq_false_iff_not] at hv
        go_wp2_with (go_at_call 199; refine hp.out.mono ?_; rintro e w2 ⟨v', rfl, O2, hb2⟩; obtain ⟨A', c', g', rfl, -⟩ := open_list O2; have X2 := X.step hb2)
        refine ⟨⟨k + 1, by omega, by go_num, by rw [HV.out]; exact ownsRow_below HO.out hb2, X2⟩, by simp [intOf]; omega⟩
      · have HV := Lib.hid (picks_yes hv)
        simp only [hasB, decide_eq_true_eq] at hv
        go_wp2_with (first
          | (go_at_call 199; refine hp.out.mono ?_; rintro e w2 ⟨v', rfl, O2, hb2⟩; obtain ⟨A', c', g', rfl, -⟩ := open_list O2; have X2 := X.step hb2; clear O2)
          | (at_builtin; refine wpList_append_own _ rfl _ _ 23 rfl (w.heap.size + 1) 2 i0 (.int .i64 0) 1 8 Tryz.underlying23 HI.out HZ0.out HZ1.out HZ2.out rfl (by decide) _ _ _ rfl ((ownsRow_below HO.out hb2).alloc _) ⟨w2.heap.size, 0, none⟩ 1 1 [.int .i64 k] rfl rfl (cell_one_new _ _ _) (fun x hx => by simp at hx; subst hx; rfl) H63.out HBY.out (by have := X2.z; simp; omega) ?_; intro v' w4 hown' hgrow hnil))
        have X3 := X2.alloc (.cells #[.int .i64 k] 2)
        have OB := (ownsRow_below HO.out hb2)
        refine ⟨⟨k + 1, by omega, by go_num, ?_, ?_⟩, by simp [intOf]; omega⟩
        · rw [HV.out]
          simpa using hown'
        · exact X3.grown hgrow fun g hg => by have := (OB.lt g hg).1; omega
    · obtain rfl : k = 6 := by omega
      go_wp2
      go_ret
      exact ⟨_, rfl, ownsRow_base HO.out (Nat.le_succ _), X.K⟩
end Go.Proofs.YtdphpjnecjofeaaGreatDoor
/- Sf -/
set_option linter.unusedVariables false
namespace Go.Proofs.YtdphpjnecjofeaaGreatDoor
open Go.RowKit

theorem step_le {L : List Int} {b : Int} {k : Nat} (h : ∀ j, j < k → L.getD j 0 ≤ b) (hk : L.getD k 0 ≤ b) : ∀ j, j < k + 1 → L.getD j 0 ≤ b := fun j hj => by
  by_cases e : j = k
  · rw [e]; exact hk
  · exact h j (by omega)
theorem firstOver_hit {L : List Int} {b : Int} {k : Nat} (hk : k < L.length) (h : ∀ j, j < k → L.getD j 0 ≤ b) (hb : b < L.getD k 0) : firstOver L b = L.getD k 0 := by
  rw [getD_at hk] at hb ⊢
  exact firstOver_at hk (fun j hj => by have := h j hj; rwa [getD_at (by omega)] at this) hb
theorem firstOver_miss {L : List Int} {b : Int} (h : ∀ j, j < L.length → L.getD j 0 ≤ b) : firstOver L b = -1 := by
  refine firstOver_none fun x hx => ?_
  obtain ⟨j, hj, rfl⟩ := List.getElem_of_mem hx
  have := h j hj
  rwa [getD_at hj] at this

set_option maxRecDepth 100000 in
set_option maxHeartbeats 2000000 in
theorem implNext_any (v : Value) (d : PlanD) (b : Int) (w : World) (h : IsPlan w w.heap.size v d) :
    Calls Tryz.prog 211 #[v, .int .i64 b] w fun e w' => e = .returned (.int .i64 (nextL d b)) ∧ Below w.heap.size w w' := by
  have P := Lib.hid h
  obtain ⟨⟨A0, A1, A2, A3, c0, c1, c2, c3, rfl, s0, s1, s2, s3⟩, b0, b1, b2, b3⟩ := h
  clear s0 s1 s2 s3 b0 b1 b2 b3
  go_enter Tryz.func211, Tryz.ntmps211
  go_wp2_with fail
  have X1 := Own.box w (planC A0 A1 A2 A3 d.n0 c0 d.n1 c1 d.n2 c2 d.n3 c3 d.l d.p d.t) 47
  refine (implBands_any _ d _ ((P.out.below X1.K (Nat.le_refl _)).more X1.K.size)).mono ?_
  rintro e w2 ⟨v', rfl, O2, hb⟩
  have K2 := Lib.hid (X1.step hb).K
  obtain ⟨A, c, g, rfl, hA, hg, hgl, R⟩ := open_list O2
  have HA := Lib.hid hA
  have hle := bandsL_le d
  have HF := Lib.hid (show ∀ x, firstOver (bandsL d) x = nextL d x from fun _ => rfl)
  clear X1 hb O2 hA hg hgl
  generalize bandsL d = L at *
  have HR := Lib.hid R
  clear R
  go_wp2
  go_loopw [10] (fun i wr => ∃ k : Nat, k ≤ L.length ∧ i = .int .i64 k ∧ wr = w2 ∧ ∀ j, j < k → L.getD j 0 ≤ b) (fun i _ => L.length - (intOf i).toNat)
  case atStart => exact ⟨0, Nat.zero_le _, rfl, rfl, fun j hj => absurd hj (by omega)⟩
  case round =>
    obtain ⟨k, hk, rfl, rfl, hall⟩ := hrel
    have HL := Lib.hid hall
    clear hall
    by_cases hlt : k < L.length
    · obtain rfl := HA.out (by omega)
      obtain ⟨t0, f0⟩ : wr.cell? ⟨g, k, none⟩ = some (.int .i64 (L.getD k 0)) ∧ wr.frozen? ⟨g, k, none⟩ = false := HR.out k hlt
      generalize hx : L.getD k 0 = x at t0
      have HX := Lib.hid hx
      clear hx
      by_cases hb : b < x
      · go_wp2
        go_ret
        exact ⟨ret_int (by rw [← HF.out, firstOver_hit hlt HL.out (by rw [HX.out]; exact hb), HX.out]), K2.out⟩
      · go_wp2
        exact ⟨⟨k + 1, by omega, by go_num, by trivial, step_le HL.out (by rw [HX.out]; omega)⟩, by simp [intOf]; omega⟩
    · obtain rfl : k = L.length := by omega
      go_wp2
      go_ret
      exact ⟨ret_int (by rw [← HF.out, firstOver_miss HL.out]), K2.out⟩

set_option maxRecDepth 100000 in
set_option maxHeartbeats 2000000 in
theorem specNext_any (v : Value) (d : PlanD) (b : Int) (w : World) (h : IsPlan w w.heap.size v d) (hn : d.n0 ≤ 1048576) :
    Calls Tryz.prog 128 #[v, .int .i64 b] w fun e w' => e = .returned (.int .i64 (nextL d b)) ∧ Below w.heap.size w w' := by
  have P := Lib.hid h
  have HN := Lib.hid hn
  obtain ⟨⟨A0, A1, A2, A3, c0, c1, c2, c3, rfl, s0, s1, s2, s3⟩, b0, b1, b2, b3⟩ := h
  clear s0 s1 s2 s3 b0 b1 b2 b3 hn
  go_enter Tryz.func128, Tryz.ntmps128
  go_wp2_with fail
  have X1 := Own.box w (planC A0 A1 A2 A3 d.n0 c0 d.n1 c1 d.n2 c2 d.n3 c3 d.l d.p d.t) 47
  refine (specBands_any _ d _ ((P.out.below X1.K (Nat.le_refl _)).more X1.K.size) HN.out).mono ?_
  rintro e w2 ⟨v', rfl, O2, hb⟩
  have K2 := Lib.hid (X1.step hb).K
  obtain ⟨A, c, g, rfl, hA, hg, hgl, R⟩ := open_list O2
  have HA := Lib.hid hA
  have hle := bandsL_le d
  have HF := Lib.hid (show ∀ x, firstOver (bandsL d) x = nextL d x from fun _ => rfl)
  clear X1 hb O2 hA hg hgl
  generalize bandsL d = L at *
  have HR := Lib.hid R
  clear R
  go_wp2
  go_loopw [6] (fun i wr => ∃ k : Nat, k ≤ L.length ∧ i = .int .i64 k ∧ wr = w2 ∧ ∀ j, j < k → L.getD j 0 ≤ b) (fun i _ => L.length - (intOf i).toNat)
  case atStart => exact ⟨0, Nat.zero_le _, rfl, rfl, fun j hj => absurd hj (by omega)⟩
  case round =>
    obtain ⟨k, hk, rfl, rfl, hall⟩ := hrel
    have HL := Lib.hid hall
    clear hall
    by_cases hlt : k < L.length
    · obtain rfl := HA.out (by omega)
      obtain ⟨t0, f0⟩ : wr.cell? ⟨g, k, none⟩ = some (.int .i64 (L.getD k 0)) ∧ wr.frozen? ⟨g, k, none⟩ = false := HR.out k hlt
      generalize hx : L.getD k 0 = x at t0
      have HX := Lib.hid hx
      clear hx
      by_cases hb : b < x
      · go_wp2
        go_ret
        exact ⟨ret_int (by rw [← HF.out, firstOver_hit hlt HL.out (by rw [HX.out]; exact hb), HX.out]), K2.out⟩
      · go_wp2
        exact ⟨⟨k + 1, by omega, by go_num, by trivial, step_le HL.out (by rw [HX.out]; omega)⟩, by simp [intOf]; omega⟩
    · obtain rfl : k = L.length := by omega
      go_wp2
      go_ret
      exact ⟨ret_int (by rw [← HF.out, firstOver_miss HL.out]), K2.out⟩
end Go.Proofs.YtdphpjnecjofeaaGreatDoor
/- Wh -/
set_option linter.unusedVariables false
namespace Go.Proofs.YtdphpjnecjofeaaGreatDoor
open Go.RowKit

theorem at_index {i : Nat} {n : Nat} (hi : i < n) : inB (i : Int) 0 (n - 1) = true := by rw [inB_true]; omega
set_option maxRecDepth 4000 in
set_option maxHeartbeats 4000000 in
theorem l10Lock_any (sv : Value) (s : StD) (a : Int) (w : World) (hs : IsSt w w.heap.size sv s) :
    Calls Tryz.prog 80 #[sv, .int .i64 6, .int .i64 a] w (RecsA w (lockD s a)) := by
  have HS := Lib.hid hs
  obtain ⟨⟨A0, A1, A2, A3, c0, c1, c2, c3, rfl, -, -, -, -⟩, -, -, -, -⟩ := hs
  obtain ⟨ans, hans⟩ : ∃ ans, lockD s a = ans := ⟨_, rfl⟩
  rw [hans]
  have HANS := Lib.hid hans
  clear hans
  have X := Own.box w (stC A0 A1 A2 A3 s.pods.length c0 s.mnts.length c1 s.devs.length c2 s.lks.length c3 s.ph s.co s.ck s.bo s.ba s.lb s.gd s.pr) 40
  have hC := X.C
  go_enter Tryz.func80, Tryz.ntmps80
  go_wp2_with fail
  refine (in_any _ _ _ _).mono ?_
  rintro e w1 ⟨rfl, rfl⟩
  cases h1 : inB a 0 7
  · have H1 := Lib.hid h1
    clear h1
    go_wp2_with fail
    refine (l10No_any 2 _).mono ?_
    rintro e w9 hR
    obtain ⟨v9, rfl, O9, K9⟩ := hR.back X.K
    go_wp2
    all_goals (go_ret2; rw [← HANS.out, lockD, if_pos H1.out]; exact ⟨v9, rfl, O9, K9⟩)
  · have H1 : Hid (¬ inB a 0 7 = false) := Lib.hid (by rw [h1]; decide)
    clear h1
    by_cases h2 : 3 ≤ s.ph
    · have H2 := Lib.hid h2
      go_wp2_with fail
      refine (l10No_any 3 _).mono ?_
      rintro e w9 hR
      obtain ⟨v9, rfl, O9, K9⟩ := hR.back X.K
      go_wp2
      all_goals (go_ret2; rw [← HANS.out, lockD, if_neg H1.out, if_pos H2.out]; exact ⟨v9, rfl, O9, K9⟩)
    · have H2 := Lib.hid h2
      go_wp2_with fail
      refine (l10Holds_any _ s a _ ((HS.out.below X.K (Nat.le_refl _)).more X.K.size)).mono ?_
      rintro e w2 ⟨rfl, hb⟩
      have X2 := X.step hb
      clear hb
      cases h3 : s.lks.contains a
      · have H3 : Hid (¬ s.lks.contains a = true) := Lib.hid (by rw [h3]; decide)
        clear h3
        go_wp2_with fail
        refine (l10One_any 6 a 0 _).mono ?_
        rintro e w9 hR
        obtain ⟨v9, rfl, O9, K9⟩ := hR.back X2.K
        go_wp2
        all_goals (go_ret2; rw [← HANS.out, lockD, if_neg H1.out, if_neg (by have := H2.out; omega), if_neg H3.out]; exact ⟨v9, rfl, O9, K9⟩)
      · have H3 := Lib.hid h3
        clear h3
        go_wp2_with fail
        refine (l10No_any 4 _).mono ?_
        rintro e w9 hR
        obtain ⟨v9, rfl, O9, K9⟩ := hR.back X2.K
        go_wp2
        all_goals (go_ret2; rw [← HANS.out, lockD, if_neg H1.out, if_neg (by have := H2.out; omega), if_pos H3.out]; exact ⟨v9, rfl, O9, K9⟩)

set_option maxRecDepth 4000 in
set_option maxHeartbeats 4000000 in
theorem l10Unlock_any (sv : Value) (s : StD) (a : Int) (w : World) (hs : IsSt w w.heap.size sv s) :
    Calls Tryz.prog 80 #[sv, .int .i64 7, .int .i64 a] w (RecsA w (unlockD s a)) := by
  have HS := Lib.hid hs
  obtain ⟨⟨A0, A1, A2, A3, c0, c1, c2, c3, rfl, -, -, -, -⟩, -, -, -, -⟩ := hs
  obtain ⟨ans, hans⟩ : ∃ ans, unlockD s a = ans := ⟨_, rfl⟩
  rw [hans]
  have HANS := Lib.hid hans
  clear hans
  have X := Own.box w (stC A0 A1 A2 A3 s.pods.length c0 s.mnts.length c1 s.devs.length c2 s.lks.length c3 s.ph s.co s.ck s.bo s.ba s.lb s.gd s.pr) 40
  have hC := X.C
  go_enter Tryz.func80, Tryz.ntmps80
  go_wp2_with fail
  refine (in_any _ _ _ _).mono ?_
  rintro e w1 ⟨rfl, rfl⟩
  cases h1 : inB a 0 7
  · have H1 := Lib.hid h1
    clear h1
    go_wp2_with fail
    refine (l10No_any 2 _).mono ?_
    rintro e w9 hR
    obtain ⟨v9, rfl, O9, K9⟩ := hR.back X.K
    go_wp2
    all_goals (go_ret2; rw [← HANS.out, unlockD, if_pos H1.out]; exact ⟨v9, rfl, O9, K9⟩)
  · have H1 : Hid (¬ inB a 0 7 = false) := Lib.hid (by rw [h1]; decide)
    clear h1
    go_wp2_with fail
    refine (l10Holds_any _ s a _ ((HS.out.below X.K (Nat.le_refl _)).more X.K.size)).mono ?_
    rintro e w2 ⟨rfl, hb⟩
    have X2 := X.step hb
    clear hb
    cases h3 : s.lks.contains a
    · have H3 := Lib.hid h3
      clear h3
      go_wp2_with fail
      refine (l10No_any 4 _).mono ?_
      rintro e w9 hR
      obtain ⟨v9, rfl, O9, K9⟩ := hR.back X2.K
      go_wp2
      all_goals (go_ret2; rw [← HANS.out, unlockD, if_neg H1.out, if_pos H3.out]; exact ⟨v9, rfl, O9, K9⟩)
    · have H3 : Hid (¬ s.lks.contains a = false) := Lib.hid (by rw [h3]; decide)
      clear h3
      go_wp2_with fail
      refine (l10One_any 7 a 0 _).mono ?_
      rintro e w9 hR
      obtain ⟨v9, rfl, O9, K9⟩ := hR.back X2.K
      go_wp2
      all_goals (go_ret2; rw [← HANS.out, unlockD, if_neg H1.out, if_neg H3.out]; exact ⟨v9, rfl, O9, K9⟩)

set_option maxRecDepth 4000 in
set_option maxHeartbeats 4000000 in
theorem l10Hook_any (pv sv : Value) (d : PlanD) (s : StD) (a : Int) (w : World) (hp : IsPlan w w.heap.size pv d) (hs : IsSt w w.heap.size sv s) (hok : StOk d s) :
    Calls Tryz.prog 81 #[pv, sv, .int .i64 8, .int .i64 a] w (RecsA w (toldD d s afterHook a)) := by
  have HP := Lib.hid hp
  have HS := Lib.hid hs
  obtain ⟨⟨P0, P1, P2, P3, k0, k1, k2, k3, rfl, s0, s1, s2, s3⟩, b0, b1, b2, b3⟩ := hp
  obtain ⟨⟨A0, A1, A2, A3, c0, c1, c2, c3, rfl, t0, t1, t2, t3⟩, f0, f1, f2, f3⟩ := hs
  have S0 := Lib.hid s0
  have S1 := Lib.hid s1
  have S2 := Lib.hid s2
  have S3 := Lib.hid s3
  have R0 := Lib.hid t0
  have R1 := Lib.hid t1
  have R2 := Lib.hid t2
  have R3 := Lib.hid t3
  unfold maxLen at b0 b1 b2 b3 f0 f1 f2 f3
  clear s0 s1 s2 s3 t0 t1 t2 t3
  have T0 := Two.start w (planC P0 P1 P2 P3 d.n0 k0 d.n1 k1 d.n2 k2 d.n3 k3 d.l d.p d.t) (stC A0 A1 A2 A3 s.pods.length c0 s.mnts.length c1 s.devs.length c2 s.lks.length c3 s.ph s.co s.ck s.bo s.ba s.lb s.gd s.pr) 47 40
  have OK := Lib.hid hok
  clear hok
  obtain ⟨ans, hans⟩ : ∃ ans, toldD d s afterHook a = ans := ⟨_, rfl⟩
  rw [hans]
  have HANS := Lib.hid hans
  clear hans
  have hC := T0.A.C
  have hD := T0.O.C
  go_enter Tryz.func81, Tryz.ntmps81
  go_wp2_with fail
  refine (in_any _ _ _ _).mono ?_
  rintro e w1 ⟨rfl, rfl⟩
  cases h1 : inB a 0 (d.n0 - 1)
  · have H1 := Lib.hid h1
    clear h1
    go_wp2_with fail
    refine (l10No_any 2 _).mono ?_
    rintro e w9 hR
    obtain ⟨v9, rfl, O9, K9⟩ := hR.back T0.A.K
    go_wp2
    all_goals (go_ret2; rw [← HANS.out, toldD, if_pos H1.out]; exact ⟨v9, rfl, O9, K9⟩)
  · obtain ⟨i, rfl, hi⟩ := index_nat (a := a) (n := d.n0) (by rw [h1]; decide)
    clear h1
    have H1 : Hid (¬ inB (i : Int) 0 (d.n0 - 1) = false) := Lib.hid (by rw [at_index hi]; decide)
    have hlp : i < s.pods.length := by rw [OK.out.np]; exact hi
    obtain ⟨b', off', rfl, hb', hc⟩ := (R0.out.below T0.A.K (Nat.le_refl _)).cell hlp
    have p0 := (hc 0 (by decide)).trans (podCs_at s.pods (i := i) hlp).1
    rw [Nat.add_zero] at p0
    clear hc
    have HX : Hid ((podAt s (i : Int).toNat).1 = (podA s.pods i).1) := Lib.hid (by rw [Int.toNat_natCast]; rfl)
    generalize (podA s.pods i).1 = x at p0 HX
    go_wp2_with fail
    refine (afterHook_any _ _).mono ?_
    rintro e w2 ⟨rfl, rfl⟩
    by_cases h2 : afterHook x < 0
    · have H2 : Hid (afterHook (podAt s (i : Int).toNat).1 < 0) := Lib.hid (by rw [HX.out]; exact h2)
      go_wp2_with fail
      refine (l10No_any 4 _).mono ?_
      rintro e w9 hR
      obtain ⟨v9, rfl, O9, K9⟩ := hR.back T0.A.K
      go_wp2
      all_goals (go_ret2; rw [← HANS.out, toldD, if_neg H1.out, if_pos H2.out]; exact ⟨v9, rfl, O9, K9⟩)
    · have H2 : Hid (¬ afterHook (podAt s (i : Int).toNat).1 < 0) := Lib.hid (by rw [HX.out]; exact h2)
      go_wp2_with fail
      refine (l10One_any 2 i (afterHook x) _).mono ?_
      rintro e w9 hR
      obtain ⟨v9, rfl, O9, K9⟩ := hR.back T0.A.K
      go_wp2
      all_goals (go_ret2; rw [← HANS.out, toldD, if_neg H1.out, if_neg (by have := H2.out; omega), HX.out]; exact ⟨v9, rfl, O9, K9⟩)

set_option maxRecDepth 4000 in
set_option maxHeartbeats 4000000 in
theorem l10Exit_any (pv sv : Value) (d : PlanD) (s : StD) (a : Int) (w : World) (hp : IsPlan w w.heap.size pv d) (hs : IsSt w w.heap.size sv s) (hok : StOk d s) :
    Calls Tryz.prog 81 #[pv, sv, .int .i64 9, .int .i64 a] w (RecsA w (toldD d s afterExit a)) := by
  have HP := Lib.hid hp
  have HS := Lib.hid hs
  obtain ⟨⟨P0, P1, P2, P3, k0, k1, k2, k3, rfl, s0, s1, s2, s3⟩, b0, b1, b2, b3⟩ := hp
  obtain ⟨⟨A0, A1, A2, A3, c0, c1, c2, c3, rfl, t0, t1, t2, t3⟩, f0, f1, f2, f3⟩ := hs
  have S0 := Lib.hid s0
  have S1 := Lib.hid s1
  have S2 := Lib.hid s2
  have S3 := Lib.hid s3
  have R0 := Lib.hid t0
  have R1 := Lib.hid t1
  have R2 := Lib.hid t2
  have R3 := Lib.hid t3
  unfold maxLen at b0 b1 b2 b3 f0 f1 f2 f3
  clear s0 s1 s2 s3 t0 t1 t2 t3
  have T0 := Two.start w (planC P0 P1 P2 P3 d.n0 k0 d.n1 k1 d.n2 k2 d.n3 k3 d.l d.p d.t) (stC A0 A1 A2 A3 s.pods.length c0 s.mnts.length c1 s.devs.length c2 s.lks.length c3 s.ph s.co s.ck s.bo s.ba s.lb s.gd s.pr) 47 40
  have OK := Lib.hid hok
  clear hok
  obtain ⟨ans, hans⟩ : ∃ ans, toldD d s afterExit a = ans := ⟨_, rfl⟩
  rw [hans]
  have HANS := Lib.hid hans
  clear hans
  have hC := T0.A.C
  have hD := T0.O.C
  go_enter Tryz.func81, Tryz.ntmps81
  go_wp2_with fail
  refine (in_any _ _ _ _).mono ?_
  rintro e w1 ⟨rfl, rfl⟩
  cases h1 : inB a 0 (d.n0 - 1)
  · have H1 := Lib.hid h1
    clear h1
    go_wp2_with fail
    refine (l10No_any 2 _).mono ?_
    rintro e w9 hR
    obtain ⟨v9, rfl, O9, K9⟩ := hR.back T0.A.K
    go_wp2
    all_goals (go_ret2; rw [← HANS.out, toldD, if_pos H1.out]; exact ⟨v9, rfl, O9, K9⟩)
  · obtain ⟨i, rfl, hi⟩ := index_nat (a := a) (n := d.n0) (by rw [h1]; decide)
    clear h1
    have H1 : Hid (¬ inB (i : Int) 0 (d.n0 - 1) = false) := Lib.hid (by rw [at_index hi]; decide)
    have hlp : i < s.pods.length := by rw [OK.out.np]; exact hi
    obtain ⟨b', off', rfl, hb', hc⟩ := (R0.out.below T0.A.K (Nat.le_refl _)).cell hlp
    have p0 := (hc 0 (by decide)).trans (podCs_at s.pods (i := i) hlp).1
    rw [Nat.add_zero] at p0
    clear hc
    have HX : Hid ((podAt s (i : Int).toNat).1 = (podA s.pods i).1) := Lib.hid (by rw [Int.toNat_natCast]; rfl)
    generalize (podA s.pods i).1 = x at p0 HX
    go_wp2_with fail
    refine (afterHook_any _ _).mono ?_
    rintro e w2 ⟨rfl, rfl⟩
    go_wp2_with fail
    refine (afterExit_any _ _).mono ?_
    rintro e w3 ⟨rfl, rfl⟩
    by_cases h2 : afterExit x < 0
    · have H2 : Hid (afterExit (podAt s (i : Int).toNat).1 < 0) := Lib.hid (by rw [HX.out]; exact h2)
      go_wp2_with fail
      refine (l10No_any 4 _).mono ?_
      rintro e w9 hR
      obtain ⟨v9, rfl, O9, K9⟩ := hR.back T0.A.K
      go_wp2
      all_goals (go_ret2; rw [← HANS.out, toldD, if_neg H1.out, if_pos H2.out]; exact ⟨v9, rfl, O9, K9⟩)
    · have H2 : Hid (¬ afterExit (podAt s (i : Int).toNat).1 < 0) := Lib.hid (by rw [HX.out]; exact h2)
      go_wp2_with fail
      refine (l10One_any 2 i (afterExit x) _).mono ?_
      rintro e w9 hR
      obtain ⟨v9, rfl, O9, K9⟩ := hR.back T0.A.K
      go_wp2
      all_goals (go_ret2; rw [← HANS.out, toldD, if_neg H1.out, if_neg (by have := H2.out; omega), HX.out]; exact ⟨v9, rfl, O9, K9⟩)

set_option maxRecDepth 4000 in
set_option maxHeartbeats 4000000 in
theorem l10Busy_any (pv sv : Value) (d : PlanD) (s : StD) (a b : Int) (w : World) (hp : IsPlan w w.heap.size pv d) (hs : IsSt w w.heap.size sv s) (hok : StOk d s) :
    Calls Tryz.prog 82 #[pv, sv, .int .i64 a, .int .i64 b] w (RecsA w (busyD d s a b)) := by
  have HP := Lib.hid hp
  have HS := Lib.hid hs
  obtain ⟨⟨P0, P1, P2, P3, k0, k1, k2, k3, rfl, s0, s1, s2, s3⟩, b0, b1, b2, b3⟩ := hp
  obtain ⟨⟨A0, A1, A2, A3, c0, c1, c2, c3, rfl, t0, t1, t2, t3⟩, f0, f1, f2, f3⟩ := hs
  have S0 := Lib.hid s0
  have S1 := Lib.hid s1
  have S2 := Lib.hid s2
  have S3 := Lib.hid s3
  have R0 := Lib.hid t0
  have R1 := Lib.hid t1
  have R2 := Lib.hid t2
  have R3 := Lib.hid t3
  unfold maxLen at b0 b1 b2 b3 f0 f1 f2 f3
  clear s0 s1 s2 s3 t0 t1 t2 t3
  have T0 := Two.start w (planC P0 P1 P2 P3 d.n0 k0 d.n1 k1 d.n2 k2 d.n3 k3 d.l d.p d.t) (stC A0 A1 A2 A3 s.pods.length c0 s.mnts.length c1 s.devs.length c2 s.lks.length c3 s.ph s.co s.ck s.bo s.ba s.lb s.gd s.pr) 47 40
  have OK := Lib.hid hok
  clear hok
  obtain ⟨ans, hans⟩ : ∃ ans, busyD d s a b = ans := ⟨_, rfl⟩
  rw [hans]
  have HANS := Lib.hid hans
  clear hans
  have hC := T0.A.C
  have hD := T0.O.C
  go_enter Tryz.func82, Tryz.ntmps82
  go_wp2_with fail
  refine (in_any _ _ _ _).mono ?_
  rintro e w1 ⟨rfl, rfl⟩
  cases h1 : inB a 0 (d.n2 - 1)
  · have H1 := Lib.hid h1
    clear h1
    go_wp2_with fail
    refine (l10No_any 2 _).mono ?_
    rintro e w9 hR
    obtain ⟨v9, rfl, O9, K9⟩ := hR.back T0.A.K
    go_wp2
    all_goals (go_ret2; rw [← HANS.out, busyD, if_pos H1.out]; exact ⟨v9, rfl, O9, K9⟩)
  · obtain ⟨i, rfl, hi⟩ := index_nat (a := a) (n := d.n2) (by rw [h1]; decide)
    clear h1
    have H1 : Hid (¬ inB (i : Int) 0 (d.n2 - 1) = false) := Lib.hid (by rw [at_index hi]; decide)
    go_wp2_with fail
    refine (in_any _ _ _ _).mono ?_
    rintro e w1 ⟨rfl, rfl⟩
    cases h2 : inB b 1 5
    · have H2 := Lib.hid h2
      clear h2
      go_wp2_with fail
      refine (l10No_any 1 _).mono ?_
      rintro e w9 hR
      obtain ⟨v9, rfl, O9, K9⟩ := hR.back T0.A.K
      go_wp2
      all_goals (go_ret2; rw [← HANS.out, busyD, if_neg H1.out, if_pos H2.out]; exact ⟨v9, rfl, O9, K9⟩)
    · have H2 : Hid (¬ inB b 1 5 = false) := Lib.hid (by rw [h2]; decide)
      clear h2
      by_cases h3 : 4 ≤ s.ph
      · have H3 := Lib.hid h3
        go_wp2_with fail
        refine (l10No_any 3 _).mono ?_
        rintro e w9 hR
        obtain ⟨v9, rfl, O9, K9⟩ := hR.back T0.A.K
        go_wp2
        all_goals (go_ret2; rw [← HANS.out, busyD, if_neg H1.out, if_neg H2.out, if_pos H3.out]; exact ⟨v9, rfl, O9, K9⟩)
      · have H3 := Lib.hid h3
        have hlp : i < s.mnts.length := by rw [OK.out.nm]; exact hi
        obtain ⟨b', off', rfl, hb', hc⟩ := (R1.out.below T0.A.K (Nat.le_refl _)).cell hlp
        have p0 := (hc 0 (by decide)).trans (mntCs_at s.mnts (i := i) hlp).1
        have p1 := (hc 1 (by decide)).trans (mntCs_at s.mnts (i := i) hlp).2
        rw [Nat.add_zero] at p0
        clear hc
        have HX : Hid (mntAt s (i : Int).toNat = mntA s.mnts i) := Lib.hid (by rw [Int.toNat_natCast]; rfl)
        generalize mntA s.mnts i = q at p0 p1 HX
        obtain ⟨x, y⟩ := q
        dsimp only at p0 p1
        cases x
        · have H4 : Hid ((mntAt s (i : Int).toNat).1 = false ∨ (mntAt s (i : Int).toNat).2 ≠ 0) := Lib.hid (by rw [HX.out]; exact .inl rfl)
          go_wp2_with fail
          refine (l10No_any 4 _).mono ?_
          rintro e w9 hR
          obtain ⟨v9, rfl, O9, K9⟩ := hR.back T0.A.K
          go_wp2
          all_goals (go_ret2; rw [← HANS.out, busyD, if_neg H1.out, if_neg H2.out, if_neg (by have := H3.out; omega), if_pos H4.out]; exact ⟨v9, rfl, O9, K9⟩)
        · by_cases hy : y = 0
          · subst hy
            have H4 : Hid (¬ ((mntAt s (i : Int).toNat).1 = false ∨ (mntAt s (i : Int).toNat).2 ≠ 0)) := Lib.hid (by rw [HX.out]; simp)
            go_wp2_with fail
            refine (l10One_any 3 i b _).mono ?_
            rintro e w9 hR
            obtain ⟨v9, rfl, O9, K9⟩ := hR.back T0.A.K
            go_wp2
            all_goals (go_ret2; rw [← HANS.out, busyD, if_neg H1.out, if_neg H2.out, if_neg (by have := H3.out; omega), if_neg H4.out]; exact ⟨v9, rfl, O9, K9⟩)
          · have H4 : Hid ((mntAt s (i : Int).toNat).1 = false ∨ (mntAt s (i : Int).toNat).2 ≠ 0) := Lib.hid (by rw [HX.out]; exact .inr hy)
            go_wp2_with fail
            refine (l10No_any 4 _).mono ?_
            rintro e w9 hR
            obtain ⟨v9, rfl, O9, K9⟩ := hR.back T0.A.K
            go_wp2
            all_goals (go_ret2; rw [← HANS.out, busyD, if_neg H1.out, if_neg H2.out, if_neg (by have := H3.out; omega), if_pos H4.out]; exact ⟨v9, rfl, O9, K9⟩)

set_option maxRecDepth 4000 in
set_option maxHeartbeats 4000000 in
theorem l10Evict_any (pv sv : Value) (d : PlanD) (s : StD) (a : Int) (w : World) (hp : IsPlan w w.heap.size pv d) (hs : IsSt w w.heap.size sv s) (hok : StOk d s) :
    Calls Tryz.prog 77 #[pv, sv, .int .i64 a] w (RecsA w (evictD d s a)) := by
  have HP := Lib.hid hp
  have HS := Lib.hid hs
  obtain ⟨⟨P0, P1, P2, P3, k0, k1, k2, k3, rfl, s0, s1, s2, s3⟩, b0, b1, b2, b3⟩ := hp
  obtain ⟨⟨A0, A1, A2, A3, c0, c1, c2, c3, rfl, t0, t1, t2, t3⟩, f0, f1, f2, f3⟩ := hs
  have S0 := Lib.hid s0
  have S1 := Lib.hid s1
  have S2 := Lib.hid s2
  have S3 := Lib.hid s3
  have R0 := Lib.hid t0
  have R1 := Lib.hid t1
  have R2 := Lib.hid t2
  have R3 := Lib.hid t3
  unfold maxLen at b0 b1 b2 b3 f0 f1 f2 f3
  clear s0 s1 s2 s3 t0 t1 t2 t3
  have T0 := Two.start w (planC P0 P1 P2 P3 d.n0 k0 d.n1 k1 d.n2 k2 d.n3 k3 d.l d.p d.t) (stC A0 A1 A2 A3 s.pods.length c0 s.mnts.length c1 s.devs.length c2 s.lks.length c3 s.ph s.co s.ck s.bo s.ba s.lb s.gd s.pr) 47 40
  have OK := Lib.hid hok
  clear hok
  obtain ⟨ans, hans⟩ : ∃ ans, evictD d s a = ans := ⟨_, rfl⟩
  rw [hans]
  have HANS := Lib.hid hans
  clear hans
  have hC := T0.A.C
  have hD := T0.O.C
  go_enter Tryz.func77, Tryz.ntmps77
  go_wp2_with fail
  refine (in_any _ _ _ _).mono ?_
  rintro e w1 ⟨rfl, rfl⟩
  cases h1 : inB a 0 (d.n0 - 1)
  · have H1 := Lib.hid h1
    clear h1
    go_wp2_with fail
    refine (l10No_any 2 _).mono ?_
    rintro e w9 hR
    obtain ⟨v9, rfl, O9, K9⟩ := hR.back T0.A.K
    go_wp2
    all_goals (go_ret2; rw [← HANS.out, evictD, if_pos H1.out]; exact ⟨v9, rfl, O9, K9⟩)
  · obtain ⟨i, rfl, hi⟩ := index_nat (a := a) (n := d.n0) (by rw [h1]; decide)
    clear h1
    have H1 : Hid (¬ inB (i : Int) 0 (d.n0 - 1) = false) := Lib.hid (by rw [at_index hi]; decide)
    cases h2 : (s.ph != 2)
    case true =>
      have H2 : Hid (s.ph ≠ 2) := Lib.hid (by simpa using h2)
      go_wp2_with fail
      refine (l10No_any 3 _).mono ?_
      rintro e w9 hR
      obtain ⟨v9, rfl, O9, K9⟩ := hR.back T0.A.K
      go_wp2
      all_goals (go_ret2; rw [← HANS.out, evictD, if_neg H1.out, if_pos H2.out]; exact ⟨v9, rfl, O9, K9⟩)
    case false =>
      have H2 : Hid (¬ s.ph ≠ 2) := Lib.hid (by simpa using h2)
      have hlp : i < s.pods.length := by rw [OK.out.np]; exact hi
      obtain ⟨b', off', rfl, hb', hc⟩ := (R0.out.below T0.A.K (Nat.le_refl _)).cell hlp
      have p0 := (hc 0 (by decide)).trans (podCs_at s.pods (i := i) hlp).1
      rw [Nat.add_zero] at p0
      clear hc
      have HX : Hid ((podAt s (i : Int).toNat).1 = (podA s.pods i).1) := Lib.hid (by rw [Int.toNat_natCast]; rfl)
      generalize (podA s.pods i).1 = x at p0 HX
      by_cases hx : x = 0
      · subst hx
        have H3 : Hid (¬ (podAt s (i : Int).toNat).1 ≠ 0) := Lib.hid (by rw [HX.out]; simp)
        go_wp2_with fail
        refine (mayEvict_any _ _ d s _ _ ((HP.out.below T0.A.K (Nat.le_refl _)).more T0.A.K.size) ((HS.out.below T0.A.K (Nat.le_refl _)).more T0.A.K.size)).mono ?_
        have HM : Hid ((stOkB d s && mayEvictB d s i) = mayEvictB d s i) := Lib.hid (by rw [stOkB_iff.2 OK.out, Bool.true_and])
        rw [HM.out]
        rintro e w2 ⟨rfl, hb⟩
        have X2 := T0.A.step hb
        clear hb
        cases h4 : mayEvictB d s i
        · have H4 := Lib.hid h4
          clear h4
          go_wp2_with fail
          refine (l10No_any 5 _).mono ?_
          rintro e w9 hR
          obtain ⟨v9, rfl, O9, K9⟩ := hR.back X2.K
          go_wp2
          all_goals (go_ret2; rw [← HANS.out, evictD, if_neg H1.out, if_neg H2.out, if_neg H3.out, if_pos H4.out]; exact ⟨v9, rfl, O9, K9⟩)
        · have H4 : Hid (¬ mayEvictB d s i = false) := Lib.hid (by rw [h4]; decide)
          clear h4
          go_wp2_with fail
          refine (l10One_any 2 i 6 _).mono ?_
          rintro e w9 hR
          obtain ⟨v9, rfl, O9, K9⟩ := hR.back X2.K
          go_wp2
          all_goals (go_ret2; rw [← HANS.out, evictD, if_neg H1.out, if_neg H2.out, if_neg H3.out, if_neg H4.out]; exact ⟨v9, rfl, O9, K9⟩)
      · have H3 : Hid ((podAt s (i : Int).toNat).1 ≠ 0) := Lib.hid (by rw [HX.out]; exact hx)
        go_wp2_with fail
        refine (l10No_any 4 _).mono ?_
        rintro e w9 hR
        obtain ⟨v9, rfl, O9, K9⟩ := hR.back T0.A.K
        go_wp2
        all_goals (go_ret2; rw [← HANS.out, evictD, if_neg H1.out, if_neg H2.out, if_pos H3.out]; exact ⟨v9, rfl, O9, K9⟩)

end Go.Proofs.YtdphpjnecjofeaaGreatDoor
