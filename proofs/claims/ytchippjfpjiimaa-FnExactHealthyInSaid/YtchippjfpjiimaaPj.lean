/-
  The program's own maker of such lists.
-/
import Derived.Test.YtchippjfpjiimaaPjA
set_option linter.unusedVariables false
namespace Go.Proofs.Ytchippjfpjiimaa
open Go.RowKit

set_option maxRecDepth 100000 in
set_option maxHeartbeats 1000000 in
theorem numbersWith_any (pv : Value) (d : PlanD) (g n : Nat) (f : Nat → Int) (wanted : Int) (w : World) (h : IsPlan w w.heap.size pv d) (hn : n ≤ 1048576)
    (hg : ∀ (x y : Value) (wr : World), (callFunc g #[x, y]).run Try.prog wr = .ok (.enter g #[x, y]) wr)
    (H : Hid (∀ i, i < n → ∀ wr, Below w.heap.size w wr → Calls Try.prog g #[pv, .int .i64 i] wr fun e w' => e = .returned (.int .i64 (f i)) ∧ Below wr.heap.size wr w')) :
    Calls Try.prog 73 #[pv, .int .i64 n, .func (.func g) #[pv] #[], .int .i64 wanted] w (Listed w (found d n f wanted)) := by
  have HN := Lib.hid hn
  have hn' : n ≤ 2 ^ 63 - 1 := by omega
  clear hn
  have P := Lib.hid h
  obtain ⟨⟨A0, A1, A2, A3, c0, c1, c2, c3, rfl, -, -, -, -⟩, -, -, -, -⟩ := h
  obtain ⟨i0, hi, hz0, hz1, hz2⟩ := info_parts info_i64
  have HI := Lib.hid hi
  have HZ0 := Lib.hid hz0
  have HZ1 := Lib.hid hz1
  have HZ2 := Lib.hid hz2
  clear hi hz0 hz1 hz2
  go_enter Try.func73, Try.ntmps73
  go_wp2_with fail
  have X1 := (Own.box w (planC A0 A1 A2 A3 d.n0 c0 d.n1 c1 d.n2 c2 d.n3 c3 d.l d.p d.t) 40).alloc (.cells #[] 2)
  have O1 : ((w.alloc (.cells (planC A0 A1 A2 A3 d.n0 c0 d.n1 c1 d.n2 c2 d.n3 c3 d.l d.p d.t) 40)).alloc (.cells #[] 2)).ownsRow w.heap.size 2 1 (.slice (some ⟨w.heap.size + 1, 0, none⟩) 0 0) 0 [] := by
    have := World.ownsRow_made (base := w.heap.size) (e := 2) (size := 1) (w.alloc (.cells (planC A0 A1 A2 A3 d.n0 c0 d.n1 c1 d.n2 c2 d.n3 c3 d.l d.p d.t) 40)) #[] 0 (by simp) (Nat.zero_le _) rfl
    simpa using this
  refine (planOk_any _ d _ ((P.out.below X1.K (Nat.le_refl _)).more X1.K.size)).mono ?_
  rintro e w1 ⟨rfl, hb⟩
  have X2 := X1.step hb
  have O2 := ownsRow_below O1 hb
  clear X1 O1 hb
  cases hq : planOkB d
  · have HF := Lib.hid (found_no (n := n) (f := f) (wanted := wanted) hq)
    clear hq
    go_wp2
    go_ret
    exact ⟨_, rfl, by rw [HF.out]; exact O2, X2.K⟩
  · have HF := Lib.hid (found_yes (n := n) (f := f) (wanted := wanted) hq)
    clear hq
    have K2 := X2.K
    clear X2
    go_wp2
    go_loopw [9, 17] (fun v i wr => ∃ k : Nat, k ≤ n ∧ i = .int .i64 k ∧ wr.ownsRow w.heap.size 2 1 v (hits k f wanted).length ((hits k f wanted).map (Value.int .i64)) ∧ Below w.heap.size w wr) (fun _ i _ => n - (intOf i).toNat)
    case atStart => exact ⟨0, Nat.zero_le _, rfl, O2, K2⟩
    case round =>
      clear O2 K2
      obtain ⟨k, hk, rfl, O, K⟩ := hrel
      by_cases hlt : k < n
      · have hf := H.out k hlt _ K
        have hle := hits_le k f wanted
        have HO := Lib.hid O
        clear O
        cases hv : (f k == wanted)
        · have HV := Lib.hid (hits_no hv)
          go_wp2_with (refine hf.mono ?_; rintro e w3 ⟨rfl, hb3⟩)
          exact ⟨⟨k + 1, by omega, by go_num, by rw [HV.out]; exact ownsRow_below HO.out hb3, K.trans (hb3.mono K.size)⟩, by simp [intOf]; omega⟩
        · have HV := Lib.hid (hits_yes hv)
          have h63 : (hits k f wanted).length + 1 ≤ maxLen := by have := HN.out; unfold maxLen; omega
          have hby : ((hits k f wanted).length + 1) * 8 ≤ 140737488355328 := by have := HN.out; omega
          have H63 := Lib.hid h63
          have HBY := Lib.hid hby
          clear h63 hby
          go_wp2_with (first
            | (refine hf.mono ?_; rintro e w3 ⟨rfl, hb3⟩)
            | (at_builtin; refine wpList_append_own _ rfl _ _ 23 rfl w.heap.size 2 i0 (.int .i64 0) 1 8 Try.underlying23 HI.out HZ0.out HZ1.out HZ2.out rfl (by decide) _ _ _ rfl ((ownsRow_below HO.out hb3).alloc _) ⟨w3.heap.size, 0, none⟩ 1 1 [.int .i64 k] rfl rfl (cell_one_new _ _ _) (fun x hx => by simp at hx; subst hx; rfl) H63.out HBY.out (by have := K.size; have := hb3.size; simp; omega) ?_; intro v' w4 hown' hgrow hnil))
          have K3 : Below w.heap.size w (w3.alloc (.cells #[.int .i64 k] 2)) := (K.trans (hb3.mono K.size)).alloc (Nat.le_trans K.size hb3.size) _
          refine ⟨⟨k + 1, by omega, by go_num, ?_, K3.grown hgrow K3.size fun g hg => ((ownsRow_below HO.out hb3).lt g hg).1⟩, by simp [intOf]; omega⟩
          rw [HV.out]
          simpa using hown'
      · obtain rfl : k = n := by omega
        go_wp2
        go_ret
        exact ⟨_, rfl, by rw [HF.out]; exact O, K⟩
end Go.Proofs.Ytchippjfpjiimaa
