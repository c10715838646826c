/-
  Chapter 12 of the program: what is given up.
-/
import Derived.Test.YtdkmhaghnfhajaaGreatDoorMZ13
import Derived.Test.YtdkmhaghnfhajaaGreatDoorMZ8
import Derived.Deep.RegionHeld3
import Derived.Deep.AppendLies
import Derived.Test.YtdkmhaghnfhajaaGreatDoorMZxVc
import Derived.Test.YtdkmhaghnfhajaaGreatDoorMZ11
import Derived.Test.YtdkmhaghnfhajaaGreatDoorMZ9
/- Oa -/
set_option linter.unusedVariables false
namespace Go.Proofs.YtdkmhaghnfhajaaGreatDoor
open Go.RowKit

/-- A box that holds a list of records, the call's own. -/
def BoxG (w : World) (B g : Nat) (v : Value) : Prop := w.ownsRow B 37 1 (.slice (some ⟨g, 0, none⟩) 1 1) 1 [v]
theorem BoxG.new {W : World} {B g : Nat} {v : Value} (hg : W.heap.size = g) (hB : B ≤ W.heap.size) : BoxG (W.alloc (.cells #[v] 37)) B g v := by
  subst hg
  exact own_of_heap (cur := #[v]) (heap_alloc_new W _) (by simp) (by simp) hB (by unfold maxLen; decide)
theorem BoxG.C {w : World} {B g : Nat} {v : Value} (h : BoxG w B g v) : ∀ o, w.cell? ⟨g, o, none⟩ = (#[v] : Array Value)[o]? := by
  intro o
  obtain ⟨hl, ⟨hv, _⟩ | ⟨g', cap, cur, hv, hb, hh, hnc, hcm, hsz, ht⟩⟩ := id h
  · cases hv
  · injection hv with h1 h2 h3
    injection h1 with h1
    injection h1 with h1 _ _
    subst h1 h3
    by_cases ho : o < 1
    · rw [show w.cell? ⟨g, o, none⟩ = [v][o]? from World.ownsRow.cellAt h o (by omega)]
      simp
    · rw [cell_of_row _ _ _ _ _ _ hh, Array.getElem?_eq_none (by omega), Array.getElem?_eq_none (by simp; omega)]
theorem BoxG.frozen {w : World} {B g : Nat} {v : Value} (h : BoxG w B g v) (o : Nat) : w.frozen? ⟨g, o, none⟩ = false := World.ownsRow.frozenAt h o
theorem BoxG.lt {w : World} {B g : Nat} {v : Value} (h : BoxG w B g v) : B ≤ g ∧ g < w.heap.size := World.ownsRow.lt h g rfl
theorem BoxG.go {w w' : World} {B g : Nat} {v : Value} (h : BoxG w B g v) (hb : Below w.heap.size w w') : BoxG w' B g v := ownsRow_below h hb
theorem keeps_setG (w : World) (g o : Nat) (u : Value) : Keeps (· = g) w (w.setCell ⟨g, o, none⟩ u) := (Keeps.refl (· = g) w).set rfl u

/-- Rows but of lists of records and of records are as they were. -/
def KRowG (W W' : World) : Prop := ∀ (B e k n : Nat) (u : Value) (xs : List Value), e ≠ 37 → e ≠ 52 → W.ownsRow B e k u n xs → W'.ownsRow B e k u n xs
theorem KRowG.refl (W : World) : KRowG W W := fun _ _ _ _ _ _ _ _ h => h
theorem KRowG.trans {a b c : World} (h : KRowG a b) (h' : KRowG b c) : KRowG a c := fun B e k n u xs h1 h2 x => h' B e k n u xs h1 h2 (h B e k n u xs h1 h2 x)
theorem KRowG.step {a b c : World} (h : KRowG a b) (hb : Below b.heap.size b c) : KRowG a c := fun B e k n u xs h1 h2 x => ownsRow_below (h B e k n u xs h1 h2 x) hb
theorem KRowG.row {a b c : World} {B e k n : Nat} {v : Value} {xs : List Value} (h : KRowG a b) (O : b.ownsRow B e k v n xs) (he : e = 37 ∨ e = 52) (kp : Keeps (fun q => v.ownBlock = some q) b c) : KRowG a c := fun B' e' k' n' u ys h1 h2 x =>
  ownsRow_keeps (h B' e' k' n' u ys h1 h2 x) kp fun r hr hv => by
    have := row_type (h B' e' k' n' u ys h1 h2 x) O hr hv
    rcases he with rfl | rfl
    · exact h1 this
    · exact h2 this

/-- What has been told so far, in its box. -/
def Gv (w0 W : World) (g : Nat) (l : List RecD) : Prop := Below w0.heap.size w0 W ∧ ∃ v, BoxG W w0.heap.size g v ∧ OR W w0.heap.size v l
theorem Gv.step {w0 W W' : World} {g : Nat} {l : List RecD} (h : Gv w0 W g l) (hb : Below W.heap.size W W') : Gv w0 W' g l := by
  obtain ⟨K, v, X, O⟩ := h
  exact ⟨K.trans (hb.mono K.size), v, X.go hb, O.below hb⟩
def GvP (w0 W : World) (g : Nat) (l : List RecD) (e : Ending) (w' : World) : Prop := e = .returned (.tuple #[]) ∧ Gv w0 w' g l ∧ KRowG W w'

set_option maxRecDepth 100000 in
set_option maxHeartbeats 8000000 in
theorem giveUp_any (w0 W : World) (g : Nat) (l : List RecD) (k a b : Int) (h : Gv w0 W g l) (hl : l.length ≤ 100) :
    Calls Tryz.prog 160 #[.int .i64 k, .int .i64 a, .int .i64 b, .pointer (some ⟨g, 0, none⟩)] W (GvP w0 W g (l ++ [⟨k, a, b⟩])) := by
  obtain ⟨K, v, X, O⟩ := h
  obtain ⟨A, c, rfl, -, -⟩ := O.slv
  have KR := KRowG.refl W
  have hC := X.C
  go_enter Tryz.func160, Tryz.ntmps160
  go_wp2_with (at_builtin; refine append_rec k a b _ _ rfl rfl rfl O rfl rfl (by omega) K.size ?_; rintro v2 w2 O2 hb2 kp; obtain ⟨A2, c2, rfl, -, -⟩ := O2.slv; rw [show (l ++ [(⟨k, a, b⟩ : RecD)]).length = l.length + 1 from by simp] at O2; have X2 : BoxG w2 w0.heap.size g (.slice A l.length c) := ownsRow_keeps X kp (fun r hr e => absurd (row_type X O hr e) (by decide)); have hC2 := X2.C; have hF2 := X2.frozen)
  replace KR := KR.row O (.inr rfl) kp
  have K2 := K.trans (hb2.mono (Nat.le_refl _))
  have kp2 : Keeps (fun b => (Value.slice (some ⟨g, 0, none⟩) 1 1).ownBlock = some b) w2 (w2.setCell ⟨g, 0, none⟩ (.slice A2 (l.length + 1) c2)) := (keeps_setG w2 g 0 _).mono fun b e => by rw [e]; rfl
  have K3 := K2.setCell (p := ⟨g, 0, none⟩) X2.lt.1 (.slice A2 (l.length + 1) c2)
  have KR3 := KR.row X2 (.inl rfl) kp2
  have O3 : OR _ _ _ _ := ownsRow_keeps O2 kp2 fun r hr e => absurd (row_type O2 X2 hr e) (by decide)
  have X3 : BoxG _ _ _ _ := (World.ownsRow.stored X2 0 (.slice A2 (l.length + 1) c2)).1
  refine bodyPost_ret (v := .tuple #[]) (by simp [results, Tryz.results160, go_sem]) rfl ?_
  exact ⟨rfl, ⟨K3, _, X3, O3⟩, KR3⟩
end Go.Proofs.YtdkmhaghnfhajaaGreatDoor
/- VlA -/
set_option linter.unusedVariables false
namespace Go.Proofs.YtdkmhaghnfhajaaGreatDoor
open Go.RowKit

def liveP (s : StD) (i : Nat) : Bool := aliveB (podA s.pods i).1
theorem liveL_le (s : StD) : (liveL s).length ≤ s.pods.length := picks_le _ _
set_option maxRecDepth 100000 in
set_option maxHeartbeats 2000000 in
theorem specLiveIn_any (v : Value) (s : StD) (w : World) (h : IsSt w w.heap.size v s) (hn : s.pods.length ≤ 1048576) :
    Calls Tryz.prog 95 #[v] w (Listed w (liveL s)) := by
  obtain ⟨⟨E0, E1, E2, E3, k0, k1, k2, k3, rfl, s0, -, -, -⟩, -, -, -, -⟩ := h
  have S := Lib.hid s0
  have HN := Lib.hid hn
  have hn' : s.pods.length ≤ 2 ^ 63 - 1 := by omega
  clear s0 hn
  obtain ⟨i0, hi, hz0, hz1, hz2⟩ := info_parts info_i64
  have HI := Lib.hid hi
  have HZ0 := Lib.hid hz0
  have HZ1 := Lib.hid hz1
  have HZ2 := Lib.hid hz2
  clear hi hz0 hz1 hz2
  go_enter Tryz.func95, Tryz.ntmps95
  go_wp2
  have X1 := (Own.box w (stC E0 E1 E2 E3 s.pods.length k0 s.mnts.length k1 s.devs.length k2 s.lks.length k3 s.ph s.co s.ck s.bo s.ba s.lb s.gd s.pr) 34).alloc (.cells #[] 2)
  have O1 : ((w.alloc (.cells (stC E0 E1 E2 E3 s.pods.length k0 s.mnts.length k1 s.devs.length k2 s.lks.length k3 s.ph s.co s.ck s.bo s.ba s.lb s.gd s.pr) 34)).alloc (.cells #[] 2)).ownsRow (w.heap.size + 1) 2 1 (.slice (some ⟨w.heap.size + 1, 0, none⟩) 0 0) 0 [] := by
    have := World.ownsRow_made (base := w.heap.size + 1) (e := 2) (size := 1) (w.alloc (.cells (stC E0 E1 E2 E3 s.pods.length k0 s.mnts.length k1 s.devs.length k2 s.lks.length k3 s.ph s.co s.ck s.bo s.ba s.lb s.gd s.pr) 34)) #[] 0 (by simp) (Nat.zero_le _) rfl
    simpa using this
  go_loopw [3, 4] (fun v i wr => ∃ k : Nat, k ≤ s.pods.length ∧ i = .int .i64 k ∧ wr.ownsRow (w.heap.size + 1) 2 1 v (picks k (liveP s)).length ((picks k (liveP s)).map (Value.int .i64)) ∧
    Own w wr w.heap.size (stC E0 E1 E2 E3 s.pods.length k0 s.mnts.length k1 s.devs.length k2 s.lks.length k3 s.ph s.co s.ck s.bo s.ba s.lb s.gd s.pr)) (fun _ i _ => s.pods.length - (intOf i).toNat)
  case atStart => exact ⟨0, Nat.zero_le _, rfl, O1, X1⟩
  case round =>
    clear O1 X1
    obtain ⟨k, hk, rfl, O, X⟩ := hrel
    have HO := Lib.hid O
    clear O
    have hC := X.C
    have hz := X.z
    by_cases hlt : k < s.pods.length
    · have hle := picks_le k (liveP s)
      have h63 : (picks k (liveP s)).length + 1 ≤ maxLen := by have := HN.out; unfold maxLen; omega
      have hby : ((picks k (liveP s)).length + 1) * 8 ≤ 140737488355328 := by have := HN.out; omega
      have H63 := Lib.hid h63
      have HBY := Lib.hid hby
      clear h63 hby hle
      obtain ⟨b, off, rfl, hb, hc⟩ := (S.out.below X.K (Nat.le_refl _)).cell hlt
      have hp := podCs_at s.pods (i := k) hlt
      have q0 := (hc 0 (by decide)).trans hp.1
      have q1 := (hc 1 (by decide)).trans hp.2
      rw [Nat.add_zero] at q0
      clear hc hp
      cases hv : aliveB (podA s.pods k).1
      · have HV := Lib.hid (picks_no (n := k) (p := liveP s) hv)
        generalize podA s.pods k = r at q0 q1 hv
        obtain ⟨x, y⟩ := r
        dsimp only at q0 q1 hv
        go_wp2_with (go_at_call 38; refine (alive_any _ _).mono ?_; rintro e w' ⟨rfl, rfl⟩)
        refine ⟨⟨k + 1, by omega, by go_num, by rw [HV.out]; exact HO.out, X⟩, by simp [intOf]; omega⟩
      · have HV := Lib.hid (picks_yes (n := k) (p := liveP s) hv)
        generalize podA s.pods k = r at q0 q1 hv
        obtain ⟨x, y⟩ := r
        dsimp only at q0 q1 hv
        go_wp2_with (first
          | (go_at_call 38; refine (alive_any _ _).mono ?_; rintro e w' ⟨rfl, rfl⟩)
          | (at_builtin; refine wpList_append_own _ rfl _ _ 25 rfl (w.heap.size + 1) 2 i0 (.int .i64 0) 1 8 Tryz.underlying25 HI.out HZ0.out HZ1.out HZ2.out rfl (by decide) _ _ _ rfl ((HO.out).alloc _) ⟨wr.heap.size, 0, none⟩ 1 1 [.int .i64 k] rfl rfl (cell_one_new _ _ _) (fun x hx => by simp at hx; subst hx; rfl) H63.out HBY.out (by simp <;> omega) ?_; intro v' w4 hown' hgrow hnil))
        have X3 := (X).alloc (.cells #[.int .i64 k] 2)
        refine ⟨⟨k + 1, by omega, by go_num, ?_, ?_⟩, by simp [intOf]; omega⟩
        · rw [HV.out]
          simpa using hown'
        · exact X3.grown hgrow fun g hg => by have := (HO.out.lt g hg).1; omega
    · obtain rfl : k = s.pods.length := by omega
      go_wp2
      go_ret
      exact ⟨_, rfl, ownsRow_base HO.out (Nat.le_succ _), X.K⟩

set_option maxRecDepth 100000 in
set_option maxHeartbeats 2000000 in
theorem implLiveIn_any (v : Value) (s : StD) (w : World) (h : IsSt w w.heap.size v s) (hn : s.pods.length ≤ 1048576) :
    Calls Tryz.prog 161 #[v] w (Listed w (liveL s)) := by
  obtain ⟨⟨E0, E1, E2, E3, k0, k1, k2, k3, rfl, s0, -, -, -⟩, -, -, -, -⟩ := h
  have S := Lib.hid s0
  have HN := Lib.hid hn
  have hn' : s.pods.length ≤ 2 ^ 63 - 1 := by omega
  clear s0 hn
  obtain ⟨i0, hi, hz0, hz1, hz2⟩ := info_parts info_i64
  have HI := Lib.hid hi
  have HZ0 := Lib.hid hz0
  have HZ1 := Lib.hid hz1
  have HZ2 := Lib.hid hz2
  clear hi hz0 hz1 hz2
  go_enter Tryz.func161, Tryz.ntmps161
  go_wp2
  have X1 := (Own.box w (stC E0 E1 E2 E3 s.pods.length k0 s.mnts.length k1 s.devs.length k2 s.lks.length k3 s.ph s.co s.ck s.bo s.ba s.lb s.gd s.pr) 34).alloc (.cells #[] 2)
  have O1 : ((w.alloc (.cells (stC E0 E1 E2 E3 s.pods.length k0 s.mnts.length k1 s.devs.length k2 s.lks.length k3 s.ph s.co s.ck s.bo s.ba s.lb s.gd s.pr) 34)).alloc (.cells #[] 2)).ownsRow (w.heap.size + 1) 2 1 (.slice (some ⟨w.heap.size + 1, 0, none⟩) 0 0) 0 [] := by
    have := World.ownsRow_made (base := w.heap.size + 1) (e := 2) (size := 1) (w.alloc (.cells (stC E0 E1 E2 E3 s.pods.length k0 s.mnts.length k1 s.devs.length k2 s.lks.length k3 s.ph s.co s.ck s.bo s.ba s.lb s.gd s.pr) 34)) #[] 0 (by simp) (Nat.zero_le _) rfl
    simpa using this
  go_loopw [3, 10] (fun v i wr => ∃ k : Nat, k ≤ s.pods.length ∧ i = .int .i64 k ∧ wr.ownsRow (w.heap.size + 1) 2 1 v (picks k (liveP s)).length ((picks k (liveP s)).map (Value.int .i64)) ∧
    Own w wr w.heap.size (stC E0 E1 E2 E3 s.pods.length k0 s.mnts.length k1 s.devs.length k2 s.lks.length k3 s.ph s.co s.ck s.bo s.ba s.lb s.gd s.pr)) (fun _ i _ => s.pods.length - (intOf i).toNat)
  case atStart => exact ⟨0, Nat.zero_le _, rfl, O1, X1⟩
  case round =>
    clear O1 X1
    obtain ⟨k, hk, rfl, O, X⟩ := hrel
    have HO := Lib.hid O
    clear O
    have hC := X.C
    have hz := X.z
    by_cases hlt : k < s.pods.length
    · have hle := picks_le k (liveP s)
      have h63 : (picks k (liveP s)).length + 1 ≤ maxLen := by have := HN.out; unfold maxLen; omega
      have hby : ((picks k (liveP s)).length + 1) * 8 ≤ 140737488355328 := by have := HN.out; omega
      have H63 := Lib.hid h63
      have HBY := Lib.hid hby
      clear h63 hby hle
      obtain ⟨b, off, rfl, hb, hc⟩ := (S.out.below X.K (Nat.le_refl _)).cell hlt
      have hp := podCs_at s.pods (i := k) hlt
      have q0 := (hc 0 (by decide)).trans hp.1
      have q1 := (hc 1 (by decide)).trans hp.2
      rw [Nat.add_zero] at q0
      clear hc hp
      cases hv : aliveB (podA s.pods k).1
      · have HV := Lib.hid (picks_no (n := k) (p := liveP s) hv)
        generalize podA s.pods k = r at q0 q1 hv
        obtain ⟨x, y⟩ := r
        dsimp only at q0 q1 hv
        go_wp2_with (go_at_call 194; refine (implAlive_any _ _).mono ?_; rintro e w' ⟨rfl, rfl⟩)
        refine ⟨⟨k + 1, by omega, by go_num, by rw [HV.out]; exact HO.out.alloc (.cells #[.int .i64 x, .int .i64 y] 62), X.alloc (.cells #[.int .i64 x, .int .i64 y] 62)⟩, by simp [intOf]; omega⟩
      · have HV := Lib.hid (picks_yes (n := k) (p := liveP s) hv)
        generalize podA s.pods k = r at q0 q1 hv
        obtain ⟨x, y⟩ := r
        dsimp only at q0 q1 hv
        go_wp2_with (first
          | (go_at_call 194; refine (implAlive_any _ _).mono ?_; rintro e w' ⟨rfl, rfl⟩)
          | (at_builtin; refine wpList_append_own _ rfl _ _ 25 rfl (w.heap.size + 1) 2 i0 (.int .i64 0) 1 8 Tryz.underlying25 HI.out HZ0.out HZ1.out HZ2.out rfl (by decide) _ _ _ rfl ((HO.out.alloc (.cells #[.int .i64 x, .int .i64 y] 62)).alloc _) ⟨wr.heap.size + 1, 0, none⟩ 1 1 [.int .i64 k] rfl rfl (by simpa [heap_size_alloc_] using cell_one_new (wr.alloc (.cells #[.int .i64 x, .int .i64 y] 62)) (.int .i64 k) 2) (fun x hx => by simp at hx; subst hx; rfl) H63.out HBY.out (by simp <;> omega) ?_; intro v' w4 hown' hgrow hnil))
        have X3 := (X.alloc (.cells #[.int .i64 x, .int .i64 y] 62)).alloc (.cells #[.int .i64 k] 2)
        refine ⟨⟨k + 1, by omega, by go_num, ?_, ?_⟩, by simp [intOf]; omega⟩
        · rw [HV.out]
          simpa using hown'
        · exact X3.grown hgrow fun g hg => by have := (HO.out.lt g hg).1; omega
    · obtain rfl : k = s.pods.length := by omega
      go_wp2
      go_ret
      exact ⟨_, rfl, ownsRow_base HO.out (Nat.le_succ _), X.K⟩

end Go.Proofs.YtdkmhaghnfhajaaGreatDoor
/- Ob -/
set_option linter.unusedVariables false
namespace Go.Proofs.YtdkmhaghnfhajaaGreatDoor
open Go.RowKit

theorem stAt_ {w0 W : World} {v : Value} {s : StD} (h : IsSt w0 w0.heap.size v s) (K : Below w0.heap.size w0 W) : IsSt W W.heap.size v s := (h.below K (Nat.le_refl _)).more K.size
theorem stPl {w0 W : World} {v : Value} {d : PlanD} (h : IsPlan w0 w0.heap.size v d) (K : Below w0.heap.size w0 W) : IsPlan W W.heap.size v d := (h.below K (Nat.le_refl _)).more K.size
/-- What is given up where a machine boots. -/
def givenL (d : PlanD) (s : StD) : List RecD := recsOf d.n0 (failG s) (fun i x => ⟨2, i, x⟩) ++ (recsOf d.n2 (looseG s) mntRec ++ (recsOf d.n3 (emptyG s) (fun i _ => ⟨5, i, 0⟩) ++ s.lks.map (fun x => (⟨7, x, 0⟩ : RecD))))
theorem bootL_given {d : PlanD} {s : StD} {id : Int} : bootL d s id = [⟨10, id, 0⟩] ++ (givenL d s ++ (⟨12, 0, 0⟩ :: (if s.ph = 8 then [] else [⟨1, 6, 0⟩]))) := by
  simp [bootL, givenL, List.append_assoc]
theorem givenL_le {d : PlanD} {s : StD} (h : StOk d s) : (givenL d s).length ≤ 44 := by
  have h0 := size_ok h.plan
  have h1 := recsOf_le d.n0 (failG s) (fun i x => (⟨2, i, x⟩ : RecD))
  have h2 := recsOf_le d.n2 (looseG s) mntRec
  have h3 := recsOf_le d.n3 (emptyG s) (fun i _ => (⟨5, i, 0⟩ : RecD))
  have h4 : s.lks.length ≤ 8 := by have := rise_len (a := 0) h.rise h.lks (by omega); omega
  simp only [givenL, List.length_append, List.length_map]
  omega
theorem live_recs (s : StD) : ∀ n, (picks n (liveP s)).map (fun x => (⟨2, x, 5⟩ : RecD)) = recsOf n (failG s) (fun i x => ⟨2, i, x⟩)
  | 0 => rfl
  | n + 1 => by
    cases h : liveP s n
    · rw [picks_no h, recsOf_none (g := failG s) (show (if liveP s n then some (5 : Int) else none) = none from by rw [h]; rfl)]
      exact live_recs s n
    · rw [picks_yes h, recsOf_some (g := failG s) (x := 5) (show (if liveP s n then some (5 : Int) else none) = some 5 from by rw [h]; rfl), List.map_append, live_recs s n]
      rfl

set_option maxRecDepth 100000 in
set_option maxHeartbeats 16000000 in
theorem givenUp_any (sv : Value) (d : PlanD) (s : StD) (w : World) (hs : IsSt w w.heap.size sv s) (hok : StOk d s) :
    Calls Tryz.prog 94 #[sv] w fun e w' => ∃ v, e = .returned v ∧ OR w' w.heap.size v (givenL d s) ∧ Below w.heap.size w w' := by
  have HS := Lib.hid hs
  have OK := Lib.hid hok
  obtain ⟨⟨A0, A1, A2, A3, c0, c1, c2, c3, rfl, t0, t1, t2, t3⟩, f0, f1, f2, f3⟩ := hs
  have R1 := Lib.hid t1
  have R2 := Lib.hid t2
  have R3 := Lib.hid t3
  unfold maxLen at f0 f1 f2 f3
  have HNP := Lib.hid hok.np
  have HNM := Lib.hid hok.nm
  have HND := Lib.hid hok.nd
  have HSZ := Lib.hid (size_ok hok.plan)
  have HLK : Hid (s.lks.length ≤ 8) := Lib.hid (by have := rise_len (a := 0) hok.rise hok.lks (by omega); omega)
  have HLV : Hid ((liveL s).map (fun x => (⟨2, x, 5⟩ : RecD)) = recsOf d.n0 (failG s) (fun i x => ⟨2, i, x⟩)) := Lib.hid (by rw [← hok.np]; exact live_recs s _)
  have HLL : Hid ((liveL s).length ≤ 12) := Lib.hid (by have := liveL_le s; have := hok.np; have := size_ok hok.plan; omega)
  have X0 := Own.box w (stC A0 A1 A2 A3 s.pods.length c0 s.mnts.length c1 s.devs.length c2 s.lks.length c3 s.ph s.co s.ck s.bo s.ba s.lb s.gd s.pr) 34
  clear t0 t1 t2 t3 hok
  have hC := X0.C
  go_enter Tryz.func94, Tryz.ntmps94
  go_upto_region 3 with fail
  have HG0 : Hid (Gv (w.alloc (.cells (stC A0 A1 A2 A3 s.pods.length c0 s.mnts.length c1 s.devs.length c2 s.lks.length c3 s.ph s.co s.ck s.bo s.ba s.lb s.gd s.pr) 34)) (((w.alloc (.cells (stC A0 A1 A2 A3 s.pods.length c0 s.mnts.length c1 s.devs.length c2 s.lks.length c3 s.ph s.co s.ck s.bo s.ba s.lb s.gd s.pr) 34)).alloc (.cells #[] 52)).alloc (.cells #[.slice (some ⟨w.heap.size + 1, 0, none⟩) 0 0] 37)) (w.heap.size + 1 + 1) []) := by
    have hz : (w.alloc (.cells (stC A0 A1 A2 A3 s.pods.length c0 s.mnts.length c1 s.devs.length c2 s.lks.length c3 s.ph s.co s.ck s.bo s.ba s.lb s.gd s.pr) 34)).heap.size = w.heap.size + 1 := by simp
    have O : OR ((w.alloc (.cells (stC A0 A1 A2 A3 s.pods.length c0 s.mnts.length c1 s.devs.length c2 s.lks.length c3 s.ph s.co s.ck s.bo s.ba s.lb s.gd s.pr) 34)).alloc (.cells #[] 52)) (w.heap.size + 1) (.slice (some ⟨w.heap.size + 1, 0, none⟩) 0 0) [] := by
      have := OR.empty (w := w.alloc (.cells (stC A0 A1 A2 A3 s.pods.length c0 s.mnts.length c1 s.devs.length c2 s.lks.length c3 s.ph s.co s.ck s.bo s.ba s.lb s.gd s.pr) 34)) (Nat.le_refl _)
      rw [hz] at this
      exact this
    have hb := (Below.refl ((w.alloc (.cells (stC A0 A1 A2 A3 s.pods.length c0 s.mnts.length c1 s.devs.length c2 s.lks.length c3 s.ph s.co s.ck s.bo s.ba s.lb s.gd s.pr) 34)).alloc (.cells #[] 52)).heap.size ((w.alloc (.cells (stC A0 A1 A2 A3 s.pods.length c0 s.mnts.length c1 s.devs.length c2 s.lks.length c3 s.ph s.co s.ck s.bo s.ba s.lb s.gd s.pr) 34)).alloc (.cells #[] 52))).alloc (Nat.le_refl _) (.cells #[.slice (some ⟨w.heap.size + 1, 0, none⟩) 0 0] 37)
    refine Lib.hid ⟨((Below.refl _ _).alloc (Nat.le_refl _) _).alloc (by simp) _, .slice (some ⟨w.heap.size + 1, 0, none⟩) 0 0, BoxG.new (by simp) (by simp), ?_⟩
    rw [hz]
    exact O.below hb
  clear hC
  generalize ((w.alloc (.cells (stC A0 A1 A2 A3 s.pods.length c0 s.mnts.length c1 s.devs.length c2 s.lks.length c3 s.ph s.co s.ck s.bo s.ba s.lb s.gd s.pr) 34)).alloc (.cells #[] 52)).alloc (.cells #[.slice (some ⟨w.heap.size + 1, 0, none⟩) 0 0] 37) = wg at HG0 ⊢
  generalize w.alloc (.cells (stC A0 A1 A2 A3 s.pods.length c0 s.mnts.length c1 s.devs.length c2 s.lks.length c3 s.ph s.co s.ck s.bo s.ba s.lb s.gd s.pr) 34) = w1 at X0 HG0
  generalize w.heap.size + 1 + 1 = g at HG0 ⊢
  skip
  skip
  have HZ := Lib.hid X0
  clear X0
  have hC := (HZ.out.step HG0.out.1).C
  go_wp2_with fail
  refine (implLiveIn_any _ s _ (stAt_ HS.out (HZ.out.step HG0.out.1).K) (by have := HNP.out; have := HSZ.out; omega)).mono ?_
  rintro e w2 ⟨vL, rfl, OL, hb⟩
  have HG1 := Lib.hid (HG0.out.step hb)
  obtain ⟨AL, cL, rfl, -, -⟩ := open_rowR OL
  have HL := Lib.hid OL
  clear OL hb hC HG0
  generalize liveL s = ll at HL HLV HLL ⊢
  have hll : ll.length ≤ 12 := HLL.out
  have hC := (HZ.out.step HG1.out.1).C
  go_wp2_with fail
  go_loopw [18] (fun j wr => ∃ k : Nat, k ≤ ll.length ∧ j = .int .i64 k ∧ Hid (Gv w1 wr g ((ll.take k).map (fun x => (⟨2, x, 5⟩ : RecD)))) ∧ Hid (KRowG w2 wr)) (fun j _ => ll.length - (intOf j).toNat)
  case atStart => exact ⟨0, Nat.zero_le _, rfl, Lib.hid (by simpa using HG1.out), Lib.hid (KRowG.refl w2)⟩
  case round =>
    clear HG1 hC
    obtain ⟨k, hk, rfl, HG1, HK⟩ := hrel
    by_cases hlt : k < ll.length
    · obtain ⟨x, hx⟩ : ∃ x, ll[k]? = some x := ⟨_, List.getElem?_eq_getElem hlt⟩
      have HX := Lib.hid hx
      obtain ⟨bl, ol, rfl, hbl, q0⟩ := list_at (HK.out _ _ 1 _ _ _ (by decide) (by decide) HL.out) hx
      clear hx
      have HN1 : Hid ((ll.take (k + 1)).map (fun x => (⟨2, x, 5⟩ : RecD)) = (ll.take k).map (fun x => (⟨2, x, 5⟩ : RecD)) ++ [⟨2, x, 5⟩]) := Lib.hid (by rw [take_at HX.out, List.map_append]; rfl)
      have HLE : Hid (((ll.take k).map (fun x => (⟨2, x, 5⟩ : RecD))).length ≤ 12) := Lib.hid (by rw [List.length_map, List.length_take]; omega)
      generalize (ll.take k).map (fun x => (⟨2, x, 5⟩ : RecD)) = done at HN1 HLE HG1
      go_wp2_with fail
      refine (giveUp_any w1 _ g _ 2 x 5 HG1.out (by have := HLE.out; omega)).mono ?_
      rintro e w3 ⟨rfl, hG, hK⟩
      have HG2 := Lib.hid hG
      have HK2 := Lib.hid (HK.out.trans hK)
      clear hG hK q0 HG1 HK
      go_wp2
      exact ⟨⟨k + 1, by omega, by go_num, Lib.hid (by rw [HN1.out]; exact HG2.out), HK2⟩, by simp [intOf]; omega⟩
    · obtain rfl : k = ll.length := by omega
      rw [List.take_length, HLV.out] at HG1
      have HL1 : Hid ((recsOf d.n0 (failG s) (fun i x => (⟨2, i, x⟩ : RecD))).length ≤ 12) := Lib.hid (by have := HSZ.out; have := recsOf_le d.n0 (failG s) (fun i x => (⟨2, i, x⟩ : RecD)); omega)
      have HA1 : Hid (givenL d s = recsOf d.n0 (failG s) (fun i x => ⟨2, i, x⟩) ++ (recsOf d.n2 (looseG s) mntRec ++ (recsOf d.n3 (emptyG s) (fun i _ => ⟨5, i, 0⟩) ++ s.lks.map (fun x => (⟨7, x, 0⟩ : RecD))))) := Lib.hid rfl
      generalize recsOf d.n0 (failG s) (fun i x => (⟨2, i, x⟩ : RecD)) = b1_ at HA1 HL1 HG1
      clear HL HK HLV HLL hll
      have hC := (HZ.out.step HG1.out.1).C
      go_wp2_with fail
      go_loopw [29] (fun j wr => ∃ k : Nat, k ≤ s.mnts.length ∧ j = .int .i64 k ∧ Hid (Gv w1 wr g (b1_ ++ recsOf k (looseG s) mntRec))) (fun j _ => s.mnts.length - (intOf j).toNat)
      case atStart => exact ⟨0, Nat.zero_le _, rfl, Lib.hid (by rw [recsOf_zero, List.append_nil]; exact HG1.out)⟩
      case round =>
        clear HG1 hC
        obtain ⟨k, hk, rfl, HG1⟩ := hrel
        by_cases hlt : k < s.mnts.length
        · obtain ⟨b', off', rfl, hb', hc⟩ := (R1.out.below (HZ.out.step HG1.out.1).K (Nat.le_refl _)).cell hlt
          have p0 := (hc 0 (by decide)).trans (mntCs_at s.mnts (i := k) hlt).1
          have p1 := (hc 1 (by decide)).trans (mntCs_at s.mnts (i := k) hlt).2
          rw [Nat.add_zero] at p0
          clear hc
          have HN1 : Hid (b1_ ++ recsOf (k + 1) (looseG s) mntRec = (b1_ ++ recsOf k (looseG s) mntRec) ++ (if (mntA s.mnts k).1 then [⟨4, k, 0⟩] else [])) := Lib.hid (by
            rw [recsOf_next, List.append_assoc]
            have : looseG s k = if (mntA s.mnts k).1 then some (false, 0) else none := rfl
            rw [this]
            cases (mntA s.mnts k).1 <;> rfl)
          generalize mntA s.mnts k = q at p0 p1 HN1
          obtain ⟨x, y⟩ := q
          dsimp only at p0 p1 HN1
          have HB := Lib.hid (HG1.out.step ((Below.refl _ _).alloc (Nat.le_refl _) (.cells #[.bool x, .int .i64 y] 83)))
          have HLE : Hid ((b1_ ++ recsOf k (looseG s) mntRec).length ≤ 25) := Lib.hid (by have := recsOf_le k (looseG s) (mntRec); have := HL1.out; have := HNM.out; have := HSZ.out; rw [List.length_append]; omega)
          generalize hR : b1_ ++ recsOf k (looseG s) mntRec = done at HN1 HLE HG1 HB
          clear hR
          cases x
          · go_wp2
            exact ⟨⟨k + 1, by omega, by go_num, Lib.hid (by rw [HN1.out]; simpa using HB.out)⟩, by simp [intOf]; omega⟩
          · go_wp2_with fail
            refine (giveUp_any w1 _ g _ 4 k 0 HB.out (by have := HLE.out; omega)).mono ?_
            rintro e w3 ⟨rfl, hG, -⟩
            have HG2 := Lib.hid hG
            clear hG HG1 HB
            go_wp2
            exact ⟨⟨k + 1, by omega, by go_num, Lib.hid (by rw [HN1.out]; exact HG2.out)⟩, by simp [intOf]; omega⟩
        · obtain ⟨rfl⟩ : d.n2 = k := by have := HNM.out; omega
          have HAQ : Hid (givenL d s = (b1_ ++ recsOf d.n2 (looseG s) mntRec) ++ (recsOf d.n3 (emptyG s) (fun i _ => ⟨5, i, 0⟩) ++ s.lks.map (fun x => (⟨7, x, 0⟩ : RecD)))) := Lib.hid (by rw [HA1.out, List.append_assoc])
          have HL2 : Hid ((b1_ ++ recsOf d.n2 (looseG s) mntRec).length ≤ 24) := Lib.hid (by have := HL1.out; have := HSZ.out; have := recsOf_le d.n2 (looseG s) (mntRec); rw [List.length_append]; omega)
          generalize hR : b1_ ++ recsOf d.n2 (looseG s) mntRec = b2_ at HAQ HL2 HG1
          clear hR HA1 HL1
          have HA1 := HAQ
          have HL1 := HL2
          clear HAQ HL2
          have hC := (HZ.out.step HG1.out.1).C
          go_wp2_with fail
          go_loopw [43] (fun j wr => ∃ k : Nat, k ≤ s.devs.length ∧ j = .int .i64 k ∧ Hid (Gv w1 wr g (b2_ ++ recsOf k (emptyG s) (fun i _ => ⟨5, i, 0⟩)))) (fun j _ => s.devs.length - (intOf j).toNat)
          case atStart => exact ⟨0, Nat.zero_le _, rfl, Lib.hid (by rw [recsOf_zero, List.append_nil]; exact HG1.out)⟩
          case round =>
            clear HG1 hC
            obtain ⟨k, hk, rfl, HG1⟩ := hrel
            by_cases hlt : k < s.devs.length
            · obtain ⟨b', off', rfl, hb', hc⟩ := (R2.out.below (HZ.out.step HG1.out.1).K (Nat.le_refl _)).cell hlt
              have p0 := (hc 0 (by decide)).trans (devCs_at s.devs (i := k * 1 + 0) (by omega))
              rw [Nat.add_zero, Nat.mul_one] at p0
              clear hc
              have HN1 : Hid (b2_ ++ recsOf (k + 1) (emptyG s) (fun i _ => ⟨5, i, 0⟩) = (b2_ ++ recsOf k (emptyG s) (fun i _ => ⟨5, i, 0⟩)) ++ (if devA s.devs k then [⟨5, k, 0⟩] else [])) := Lib.hid (by
                rw [recsOf_next, List.append_assoc]
                have : emptyG s k = if devA s.devs k then some () else none := rfl
                rw [this]
                cases devA s.devs k <;> rfl)
              generalize devA s.devs k = x at p0 HN1
              have HLE : Hid ((b2_ ++ recsOf k (emptyG s) (fun i _ => ⟨5, i, 0⟩)).length ≤ 37) := Lib.hid (by have := recsOf_le k (emptyG s) (fun (i : Nat) (_ : Unit) => (⟨5, i, 0⟩ : RecD)); have := HL1.out; have := HND.out; have := HSZ.out; rw [List.length_append]; omega)
              generalize hR : b2_ ++ recsOf k (emptyG s) (fun i _ => ⟨5, i, 0⟩) = done at HN1 HLE HG1
              clear hR
              cases x
              · go_wp2
                exact ⟨⟨k + 1, by omega, by go_num, Lib.hid (by rw [HN1.out]; simpa using HG1.out)⟩, by simp [intOf]; omega⟩
              · go_wp2_with fail
                refine (giveUp_any w1 _ g _ 5 k 0 HG1.out (by have := HLE.out; omega)).mono ?_
                rintro e w3 ⟨rfl, hG, -⟩
                have HG2 := Lib.hid hG
                clear hG HG1
                go_wp2
                exact ⟨⟨k + 1, by omega, by go_num, Lib.hid (by rw [HN1.out]; exact HG2.out)⟩, by simp [intOf]; omega⟩
            · obtain ⟨rfl⟩ : d.n3 = k := by have := HND.out; omega
              have HAQ : Hid (givenL d s = (b2_ ++ recsOf d.n3 (emptyG s) (fun i _ => ⟨5, i, 0⟩)) ++ (s.lks.map (fun x => (⟨7, x, 0⟩ : RecD)))) := Lib.hid (by rw [HA1.out, List.append_assoc])
              have HL2 : Hid ((b2_ ++ recsOf d.n3 (emptyG s) (fun i _ => ⟨5, i, 0⟩)).length ≤ 36) := Lib.hid (by have := HL1.out; have := HSZ.out; have := recsOf_le d.n3 (emptyG s) (fun (i : Nat) (_ : Unit) => (⟨5, i, 0⟩ : RecD)); rw [List.length_append]; omega)
              generalize hR : b2_ ++ recsOf d.n3 (emptyG s) (fun i _ => ⟨5, i, 0⟩) = b3_ at HAQ HL2 HG1
              clear hR HA1 HL1
              have HA1 := HAQ
              have HL1 := HL2
              clear HAQ HL2
              have hC := (HZ.out.step HG1.out.1).C
              go_wp2_with fail
              go_loopw [56] (fun j wr => ∃ k : Nat, k ≤ s.lks.length ∧ j = .int .i64 k ∧ Hid (Gv w1 wr g (b3_ ++ (s.lks.take k).map (fun x => (⟨7, x, 0⟩ : RecD))))) (fun j _ => s.lks.length - (intOf j).toNat)
              case atStart => exact ⟨0, Nat.zero_le _, rfl, Lib.hid (by rw [List.take_zero, List.map_nil, List.append_nil]; exact HG1.out)⟩
              case round =>
                clear HG1 hC
                obtain ⟨k, hk, rfl, HG1⟩ := hrel
                by_cases hlt : k < s.lks.length
                · obtain ⟨b', off', rfl, hb', hc⟩ := (R3.out.below (HZ.out.step HG1.out.1).K (Nat.le_refl _)).cell hlt
                  have p0 := (hc 0 (by decide)).trans (lkCs_at s.lks (i := k * 1 + 0) (by omega))
                  rw [Nat.add_zero, Nat.mul_one] at p0
                  clear hc
                  have HN1 : Hid (b3_ ++ (s.lks.take (k + 1)).map (fun x => (⟨7, x, 0⟩ : RecD)) = (b3_ ++ (s.lks.take k).map (fun x => (⟨7, x, 0⟩ : RecD))) ++ [⟨7, lkA s.lks k, 0⟩]) := Lib.hid (by
                    rw [List.append_assoc, take_at (i := lkA s.lks k) (by rw [List.getElem?_eq_getElem hlt]; simp [lkA, List.getD, List.getElem?_eq_getElem hlt]), List.map_append]
                    rfl)
                  have HLE : Hid ((b3_ ++ (s.lks.take k).map (fun x => (⟨7, x, 0⟩ : RecD))).length ≤ 46) := Lib.hid (by
                    have := HL1.out
                    have hf := HLK.out
                    rw [List.length_append, List.length_map, List.length_take]
                    omega)
                  generalize lkA s.lks k = x at p0 HN1
                  generalize hR : b3_ ++ (s.lks.take k).map (fun x => (⟨7, x, 0⟩ : RecD)) = done at HN1 HLE HG1
                  clear hR
                  go_wp2_with fail
                  refine (giveUp_any w1 _ g _ 7 x 0 HG1.out (by have := HLE.out; omega)).mono ?_
                  rintro e w3 ⟨rfl, hG, -⟩
                  have HG2 := Lib.hid hG
                  clear hG HG1 p0
                  go_wp2
                  exact ⟨⟨k + 1, by omega, by go_num, Lib.hid (by rw [HN1.out]; exact HG2.out)⟩, by simp [intOf]; omega⟩
                · obtain rfl : k = s.lks.length := by omega
                  rw [List.take_length, ← HA1.out] at HG1
                  obtain ⟨K, v, X, O⟩ := HG1.out
                  have hX := X.C
                  go_wp2
                  go_ret
                  exact ⟨_, rfl, O.base HZ.out.K.size, HZ.out.K.trans (K.mono HZ.out.K.size)⟩
end Go.Proofs.YtdkmhaghnfhajaaGreatDoor
