/-
  LiveIn: the program's, the model's, and the law's walk.
-/
import Derived.Test.YtdkmhaghnfhajaaGreatMZxVc
/- VlA -/
set_option linter.unusedVariables false
namespace Go.Proofs.YtdkmhaghnfhajaaGreat
open Go.RowKit

def liveP (s : StD) (i : Nat) : Bool := aliveB (podA s.pods i).1
theorem liveL_le (s : StD) : (liveL s).length ≤ s.pods.length := picks_le _ _
set_option maxRecDepth 100000 in
set_option maxHeartbeats 2000000 in
theorem specLiveIn_any (v : Value) (s : StD) (w : World) (h : IsSt w w.heap.size v s) (hn : s.pods.length ≤ 1048576) :
    Calls Tryz.prog 16 #[v] w (Listed w (liveL s)) := by
  obtain ⟨⟨E0, E1, E2, E3, k0, k1, k2, k3, rfl, s0, -, -, -⟩, -, -, -, -⟩ := h
  have S := Lib.hid s0
  have HN := Lib.hid hn
  have hn' : s.pods.length ≤ 2 ^ 63 - 1 := by omega
  clear s0 hn
  obtain ⟨i0, hi, hz0, hz1, hz2⟩ := info_parts info_i64
  have HI := Lib.hid hi
  have HZ0 := Lib.hid hz0
  have HZ1 := Lib.hid hz1
  have HZ2 := Lib.hid hz2
  clear hi hz0 hz1 hz2
  go_enter Tryz.func16, Tryz.ntmps16
  go_wp2
  have X1 := (Own.box w (stC E0 E1 E2 E3 s.pods.length k0 s.mnts.length k1 s.devs.length k2 s.lks.length k3 s.ph s.co s.ck s.bo s.ba s.lb s.gd s.pr) 38).alloc (.cells #[] 2)
  have O1 : ((w.alloc (.cells (stC E0 E1 E2 E3 s.pods.length k0 s.mnts.length k1 s.devs.length k2 s.lks.length k3 s.ph s.co s.ck s.bo s.ba s.lb s.gd s.pr) 38)).alloc (.cells #[] 2)).ownsRow (w.heap.size + 1) 2 1 (.slice (some ⟨w.heap.size + 1, 0, none⟩) 0 0) 0 [] := by
    have := World.ownsRow_made (base := w.heap.size + 1) (e := 2) (size := 1) (w.alloc (.cells (stC E0 E1 E2 E3 s.pods.length k0 s.mnts.length k1 s.devs.length k2 s.lks.length k3 s.ph s.co s.ck s.bo s.ba s.lb s.gd s.pr) 38)) #[] 0 (by simp) (Nat.zero_le _) rfl
    simpa using this
  go_loopw [3, 4] (fun v i wr => ∃ k : Nat, k ≤ s.pods.length ∧ i = .int .i64 k ∧ wr.ownsRow (w.heap.size + 1) 2 1 v (picks k (liveP s)).length ((picks k (liveP s)).map (Value.int .i64)) ∧
    Own w wr w.heap.size (stC E0 E1 E2 E3 s.pods.length k0 s.mnts.length k1 s.devs.length k2 s.lks.length k3 s.ph s.co s.ck s.bo s.ba s.lb s.gd s.pr)) (fun _ i _ => s.pods.length - (intOf i).toNat)
  case atStart => exact ⟨0, Nat.zero_le _, rfl, O1, X1⟩
  case round =>
    clear O1 X1
    obtain ⟨k, hk, rfl, O, X⟩ := hrel
    have HO := Lib.hid O
    clear O
    have hC := X.C
    have hz := X.z
    by_cases hlt : k < s.pods.length
    · have hle := picks_le k (liveP s)
      have h63 : (picks k (liveP s)).length + 1 ≤ maxLen := by have := HN.out; unfold maxLen; omega
      have hby : ((picks k (liveP s)).length + 1) * 8 ≤ 140737488355328 := by have := HN.out; omega
      have H63 := Lib.hid h63
      have HBY := Lib.hid hby
      clear h63 hby hle
      obtain ⟨b, off, rfl, hb, hc⟩ := (S.out.below X.K (Nat.le_refl _)).cell hlt
      have hp := podCs_at s.pods (i := k) hlt
      have q0 := (hc 0 (by decide)).trans hp.1
      have q1 := (hc 1 (by decide)).trans hp.2
      rw [Nat.add_zero] at q0
      clear hc hp
      cases hv : aliveB (podA s.pods k).1
      · have HV := Lib.hid (picks_no (n := k) (p := liveP s) hv)
        generalize podA s.pods k = r at q0 q1 hv
        obtain ⟨x, y⟩ := r
        dsimp only at q0 q1 hv
        go_wp2_with (go_at_call 18; refine (alive_any _ _).mono ?_; rintro e w' ⟨rfl, rfl⟩)
        refine ⟨⟨k + 1, by omega, by go_num, by rw [HV.out]; exact HO.out, X⟩, by simp [intOf]; omega⟩
      · have HV := Lib.hid (picks_yes (n := k) (p := liveP s) hv)
        generalize podA s.pods k = r at q0 q1 hv
        obtain ⟨x, y⟩ := r
        dsimp only at q0 q1 hv
        go_wp2_with (first
          | (go_at_call 18; refine (alive_any _ _).mono ?_; rintro e w' ⟨rfl, rfl⟩)
          | (at_builtin; refine wpList_append_own _ rfl _ _ 25 rfl (w.heap.size + 1) 2 i0 (.int .i64 0) 1 8 Tryz.underlying25 HI.out HZ0.out HZ1.out HZ2.out rfl (by decide) _ _ _ rfl ((HO.out).alloc _) ⟨wr.heap.size, 0, none⟩ 1 1 [.int .i64 k] rfl rfl (cell_one_new _ _ _) (fun x hx => by simp at hx; subst hx; rfl) H63.out HBY.out (by simp <;> omega) ?_; intro v' w4 hown' hgrow hnil))
        have X3 := (X).alloc (.cells #[.int .i64 k] 2)
        refine ⟨⟨k + 1, by omega, by go_num, ?_, ?_⟩, by simp [intOf]; omega⟩
        · rw [HV.out]
          simpa using hown'
        · exact X3.grown hgrow fun g hg => by have := (HO.out.lt g hg).1; omega
    · obtain rfl : k = s.pods.length := by omega
      go_wp2
      go_ret
      exact ⟨_, rfl, ownsRow_base HO.out (Nat.le_succ _), X.K⟩

set_option maxRecDepth 100000 in
set_option maxHeartbeats 2000000 in
theorem implLiveIn_any (v : Value) (s : StD) (w : World) (h : IsSt w w.heap.size v s) (hn : s.pods.length ≤ 1048576) :
    Calls Tryz.prog 13 #[v] w (Listed w (liveL s)) := by
  obtain ⟨⟨E0, E1, E2, E3, k0, k1, k2, k3, rfl, s0, -, -, -⟩, -, -, -, -⟩ := h
  have S := Lib.hid s0
  have HN := Lib.hid hn
  have hn' : s.pods.length ≤ 2 ^ 63 - 1 := by omega
  clear s0 hn
  obtain ⟨i0, hi, hz0, hz1, hz2⟩ := info_parts info_i64
  have HI := Lib.hid hi
  have HZ0 := Lib.hid hz0
  have HZ1 := Lib.hid hz1
  have HZ2 := Lib.hid hz2
  clear hi hz0 hz1 hz2
  go_enter Tryz.func13, Tryz.ntmps13
  go_wp2
  have X1 := (Own.box w (stC E0 E1 E2 E3 s.pods.length k0 s.mnts.length k1 s.devs.length k2 s.lks.length k3 s.ph s.co s.ck s.bo s.ba s.lb s.gd s.pr) 38).alloc (.cells #[] 2)
  have O1 : ((w.alloc (.cells (stC E0 E1 E2 E3 s.pods.length k0 s.mnts.length k1 s.devs.length k2 s.lks.length k3 s.ph s.co s.ck s.bo s.ba s.lb s.gd s.pr) 38)).alloc (.cells #[] 2)).ownsRow (w.heap.size + 1) 2 1 (.slice (some ⟨w.heap.size + 1, 0, none⟩) 0 0) 0 [] := by
    have := World.ownsRow_made (base := w.heap.size + 1) (e := 2) (size := 1) (w.alloc (.cells (stC E0 E1 E2 E3 s.pods.length k0 s.mnts.length k1 s.devs.length k2 s.lks.length k3 s.ph s.co s.ck s.bo s.ba s.lb s.gd s.pr) 38)) #[] 0 (by simp) (Nat.zero_le _) rfl
    simpa using this
  go_loopw [3, 10] (fun v i wr => ∃ k : Nat, k ≤ s.pods.length ∧ i = .int .i64 k ∧ wr.ownsRow (w.heap.size + 1) 2 1 v (picks k (liveP s)).length ((picks k (liveP s)).map (Value.int .i64)) ∧
    Own w wr w.heap.size (stC E0 E1 E2 E3 s.pods.length k0 s.mnts.length k1 s.devs.length k2 s.lks.length k3 s.ph s.co s.ck s.bo s.ba s.lb s.gd s.pr)) (fun _ i _ => s.pods.length - (intOf i).toNat)
  case atStart => exact ⟨0, Nat.zero_le _, rfl, O1, X1⟩
  case round =>
    clear O1 X1
    obtain ⟨k, hk, rfl, O, X⟩ := hrel
    have HO := Lib.hid O
    clear O
    have hC := X.C
    have hz := X.z
    by_cases hlt : k < s.pods.length
    · have hle := picks_le k (liveP s)
      have h63 : (picks k (liveP s)).length + 1 ≤ maxLen := by have := HN.out; unfold maxLen; omega
      have hby : ((picks k (liveP s)).length + 1) * 8 ≤ 140737488355328 := by have := HN.out; omega
      have H63 := Lib.hid h63
      have HBY := Lib.hid hby
      clear h63 hby hle
      obtain ⟨b, off, rfl, hb, hc⟩ := (S.out.below X.K (Nat.le_refl _)).cell hlt
      have hp := podCs_at s.pods (i := k) hlt
      have q0 := (hc 0 (by decide)).trans hp.1
      have q1 := (hc 1 (by decide)).trans hp.2
      rw [Nat.add_zero] at q0
      clear hc hp
      cases hv : aliveB (podA s.pods k).1
      · have HV := Lib.hid (picks_no (n := k) (p := liveP s) hv)
        generalize podA s.pods k = r at q0 q1 hv
        obtain ⟨x, y⟩ := r
        dsimp only at q0 q1 hv
        go_wp2_with (go_at_call 17; refine (implAlive_any _ _).mono ?_; rintro e w' ⟨rfl, rfl⟩)
        refine ⟨⟨k + 1, by omega, by go_num, by rw [HV.out]; exact HO.out.alloc (.cells #[.int .i64 x, .int .i64 y] 67), X.alloc (.cells #[.int .i64 x, .int .i64 y] 67)⟩, by simp [intOf]; omega⟩
      · have HV := Lib.hid (picks_yes (n := k) (p := liveP s) hv)
        generalize podA s.pods k = r at q0 q1 hv
        obtain ⟨x, y⟩ := r
        dsimp only at q0 q1 hv
        go_wp2_with (first
          | (go_at_call 17; refine (implAlive_any _ _).mono ?_; rintro e w' ⟨rfl, rfl⟩)
          | (at_builtin; refine wpList_append_own _ rfl _ _ 25 rfl (w.heap.size + 1) 2 i0 (.int .i64 0) 1 8 Tryz.underlying25 HI.out HZ0.out HZ1.out HZ2.out rfl (by decide) _ _ _ rfl ((HO.out.alloc (.cells #[.int .i64 x, .int .i64 y] 67)).alloc _) ⟨wr.heap.size + 1, 0, none⟩ 1 1 [.int .i64 k] rfl rfl (by simpa [heap_size_alloc_] using cell_one_new (wr.alloc (.cells #[.int .i64 x, .int .i64 y] 67)) (.int .i64 k) 2) (fun x hx => by simp at hx; subst hx; rfl) H63.out HBY.out (by simp <;> omega) ?_; intro v' w4 hown' hgrow hnil))
        have X3 := (X.alloc (.cells #[.int .i64 x, .int .i64 y] 67)).alloc (.cells #[.int .i64 k] 2)
        refine ⟨⟨k + 1, by omega, by go_num, ?_, ?_⟩, by simp [intOf]; omega⟩
        · rw [HV.out]
          simpa using hown'
        · exact X3.grown hgrow fun g hg => by have := (HO.out.lt g hg).1; omega
    · obtain rfl : k = s.pods.length := by omega
      go_wp2
      go_ret
      exact ⟨_, rfl, ownsRow_base HO.out (Nat.le_succ _), X.K⟩

end Go.Proofs.YtdkmhaghnfhajaaGreat
