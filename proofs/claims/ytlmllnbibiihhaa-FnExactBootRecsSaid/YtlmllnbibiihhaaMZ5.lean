/-
  The program's StateOk: a state laid beside its plan.
-/
import Derived.Test.YtlmllnbibiihhaaMZ4
import Derived.Test.YtlmllnbibiihhaaMZxUh
import Derived.Test.YtlmllnbibiihhaaMZxPd
import Derived.Deep.DeepCutAuto
import Derived.Test.YtlmllnbibiihhaaMZ1
import Derived.Test.YtlmllnbibiihhaaMZ3
import Derived.Laws.Tables
import Derived.Laws.CopyOwn
/- Ur -/
set_option linter.unusedVariables false
namespace Go.Proofs.Ytlmllnbibiihhaa
open Go.RowKit

end Go.Proofs.Ytlmllnbibiihhaa
/- Us -/
set_option linter.unusedVariables false
namespace Go.Proofs.Ytlmllnbibiihhaa
open Go.RowKit

theorem three (w : World) (o o' o'' : Obj) : Below w.heap.size w (((w.alloc o).alloc o').alloc o'') := (((Below.refl _ _).alloc (Nat.le_refl _) _).alloc (by simp) _).alloc (by simp; omega) _
/-- The blocks of a state's lists. -/
def rowsOf (v : Value) (g : Nat) : Prop := ∃ (cs : Array Value) (i : Nat) (u : Value), v = .agg cs ∧ cs[i]? = some u ∧ u.ownBlock = some g
theorem OwnSt.blocks {w : World} {B : Nat} {v : Value} {s : StD} (h : OwnSt w B v s) {g : Nat} (hg : rowsOf v g) : B ≤ g ∧ g < w.heap.size := by
  obtain ⟨v0, v1, v2, v3, rfl, h0, h1, h2, h3⟩ := h.it
  obtain ⟨cs, i, u, hv, hc, hu⟩ := hg
  injection hv with hv
  subst hv
  match i, hc with
  | 0, hc => cases hc; cases hu
  | 1, hc => cases hc; cases hu
  | 2, hc => cases hc; cases hu
  | 3, hc => cases hc; cases hu
  | 4, hc => cases hc; cases hu
  | 5, hc => cases hc; cases hu
  | 6, hc => cases hc; exact h0.lt g hu
  | 7, hc => cases hc; exact h1.lt g hu
  | 8, hc => cases hc; exact h2.lt g hu
  | 9, hc => cases hc; exact h3.lt g hu
  | 10, hc => cases hc; cases hu
  | 11, hc => cases hc; cases hu
  | k + 12, hc => simp at hc
end Go.Proofs.Ytlmllnbibiihhaa
/- Ut -/
set_option linter.unusedVariables false
namespace Go.Proofs.Ytlmllnbibiihhaa
open Go.RowKit

end Go.Proofs.Ytlmllnbibiihhaa
/- Uu -/
set_option linter.unusedVariables false
namespace Go.Proofs.Ytlmllnbibiihhaa
open Go.RowKit

end Go.Proofs.Ytlmllnbibiihhaa
/- Uo -/
set_option linter.unusedVariables false
namespace Go.Proofs.Ytlmllnbibiihhaa
open Go.RowKit

theorem alive_any (x : Int) (w : World) : Calls Try.prog 30 #[.int .i64 x] w fun e w' => e = .returned (.bool (aliveB x)) ∧ w = w' := by
  go_enter Try.func30, Try.ntmps30
  go_wp2_with fail
  refine (in_any _ _ _ _).mono ?_
  rintro e w' ⟨rfl, rfl⟩
  go_wp2
  go_ret
  exact ⟨rfl, rfl⟩

theorem own_of_heap {w : World} {B e k n g : Nat} {xs : List Value} {cur : Array Value} (hh : w.heap[g]? = some (.cells cur e)) (hc : cur = xs.toArray) (hl : xs.length = n * k) (hb : B ≤ g) (hn : n ≤ maxLen) :
    w.ownsRow B e k (.slice (some ⟨g, 0, none⟩) n n) n xs := ⟨hl, .inr ⟨g, n, cur, rfl, hb, hh, Nat.le_refl _, hn, by subst hc; simp [hl], by subst hc; simp [← hl]⟩⟩
/-- A new state being made. -/
structure NewB (w wr : World) (g0 g1 g2 g3 n0 n2 n3 : Nat) (L1 : List (Bool × Int)) (L2 : List Bool) : Prop where
  l1 : L1.length = n2
  l2 : L2.length = n3
  S : Own w wr g3 (stC (some ⟨g0, 0, none⟩) (some ⟨g1, 0, none⟩) (some ⟨g2, 0, none⟩) none n0 n0 n2 n2 n3 n3 0 0 0 false 0 0 0 0 0 0)
  O : Own w wr (w.heap.size + 1) (stC none none none none 0 0 0 0 0 0 0 0 0 false 0 0 0 0 0 0)
  r0 : wr.ownsRow (w.heap.size + 2) 72 2 (.slice (some ⟨g0, 0, none⟩) n0 n0) n0 (podCs (List.replicate n0 (0, 0)))
  r1 : wr.ownsRow (w.heap.size + 2) 74 2 (.slice (some ⟨g1, 0, none⟩) n2 n2) n2 (mntCs L1)
  r2 : wr.ownsRow (w.heap.size + 2) 4 1 (.slice (some ⟨g2, 0, none⟩) n3 n3) n3 (devCs L2)
theorem NewB.step {w wr w2 : World} {g0 g1 g2 g3 n0 n2 n3 : Nat} {L1 : List (Bool × Int)} {L2 : List Bool} (h : NewB w wr g0 g1 g2 g3 n0 n2 n3 L1 L2) (hb : Below wr.heap.size wr w2) : NewB w w2 g0 g1 g2 g3 n0 n2 n3 L1 L2 :=
  ⟨h.l1, h.l2, h.S.step hb, h.O.step hb, ownsRow_below h.r0 hb, ownsRow_below h.r1 hb, ownsRow_below h.r2 hb⟩
end Go.Proofs.Ytlmllnbibiihhaa
/- Wb -/
set_option linter.unusedVariables false
namespace Go.Proofs.Ytlmllnbibiihhaa
open Go.RowKit

theorem ownsRow_keeps {S : Nat → Prop} {w w' : World} {B e k n : Nat} {v : Value} {xs : List Value} (h : w.ownsRow B e k v n xs) (kp : Keeps S w w') (hn : ∀ r, v.ownBlock = some r → ¬ S r) : w'.ownsRow B e k v n xs := by
  refine ⟨h.1, h.2.imp id ?_⟩
  rintro ⟨g, cap, cur, hv, hb', hh, rest⟩
  exact ⟨g, cap, cur, hv, hb', (kp.block g (Array.getElem?_eq_some_iff.1 hh).1 (hn g (by rw [hv]; rfl))).trans hh, rest⟩
theorem OwnSt.keeps {S : Nat → Prop} {w w' : World} {B : Nat} {v : Value} {s : StD} (h : OwnSt w B v s) (kp : Keeps S w w') (hn : ∀ g, rowsOf v g → ¬ S g) : OwnSt w' B v s := by
  obtain ⟨v0, v1, v2, v3, rfl, h0, h1, h2, h3⟩ := h.it
  exact ⟨v0, v1, v2, v3, rfl, ownsRow_keeps h0 kp fun r hr => hn r ⟨_, 6, v0, rfl, rfl, hr⟩, ownsRow_keeps h1 kp fun r hr => hn r ⟨_, 7, v1, rfl, rfl, hr⟩, ownsRow_keeps h2 kp fun r hr => hn r ⟨_, 8, v2, rfl, rfl, hr⟩, ownsRow_keeps h3 kp fun r hr => hn r ⟨_, 9, v3, rfl, rfl, hr⟩⟩

/-- A box of a state, the call's own. -/
def BoxS (w : World) (B g : Nat) (xs : List Value) : Prop := w.ownsRow B 47 12 (.slice (some ⟨g, 0, none⟩) 1 1) 1 xs
theorem BoxS.new {W : World} {B g : Nat} {cs : Array Value} (hg : W.heap.size = g) (hB : B ≤ W.heap.size) (hl : cs.size = 12) : BoxS (W.alloc (.cells cs 47)) B g cs.toList := by
  subst hg
  exact own_of_heap (cur := cs) (heap_alloc_new W _) (by simp) (by simp [hl]) hB (by unfold maxLen; decide)
theorem BoxS.at_ {w : World} {B g : Nat} {xs : List Value} (h : BoxS w B g xs) (o : Nat) (ho : o < 12) : w.cell? ⟨g, o, none⟩ = xs[o]? := World.ownsRow.cellAt h o (by omega)
theorem BoxS.C {w : World} {B g : Nat} {cs : Array Value} (h : BoxS w B g cs.toList) : ∀ o, w.cell? ⟨g, o, none⟩ = cs[o]? := by
  intro o
  obtain ⟨hl, ⟨hv, _⟩ | ⟨g', cap, cur, hv, hb, hh, hnc, hcm, hsz, ht⟩⟩ := id h
  · cases hv
  · injection hv with h1 h2 h3
    injection h1 with h1
    injection h1 with h1 _ _
    subst h1 h3
    by_cases ho : o < 12
    · rw [h.at_ o ho, Array.getElem?_toList]
    · rw [cell_of_row _ _ _ _ _ _ hh, Array.getElem?_eq_none (by omega), Array.getElem?_eq_none (by simpa using (by omega : cs.toList.length ≤ o))]
theorem BoxS.frozen {w : World} {B g : Nat} {xs : List Value} (h : BoxS w B g xs) (o : Nat) : w.frozen? ⟨g, o, none⟩ = false := World.ownsRow.frozenAt h o
theorem BoxS.lt {w : World} {B g : Nat} {xs : List Value} (h : BoxS w B g xs) : B ≤ g ∧ g < w.heap.size := World.ownsRow.lt h g rfl
theorem BoxS.go {w w' : World} {B g : Nat} {xs : List Value} (h : BoxS w B g xs) (hb : Below w.heap.size w w') : BoxS w' B g xs := ownsRow_below h hb
theorem BoxS.keeps {S : Nat → Prop} {w w' : World} {B g : Nat} {xs : List Value} (h : BoxS w B g xs) (kp : Keeps S w w') (hn : ¬ S g) : BoxS w' B g xs := ownsRow_keeps h kp fun r hr => by
  obtain rfl : g = r := by simpa [Value.ownBlock] using hr
  exact hn
theorem OwnSt.apart {w : World} {B B' g : Nat} {v : Value} {s : StD} {xs : List Value} (h : OwnSt w B v s) (hb : BoxS w B' g xs) : ¬ rowsOf v g := by
  obtain ⟨v0, v1, v2, v3, rfl, h0, h1, h2, h3⟩ := h.it
  rintro ⟨cs, i, u, hv, hc, hu⟩
  injection hv with hv
  subst hv
  match i, hc with
  | 0, hc => cases hc; cases hu
  | 1, hc => cases hc; cases hu
  | 2, hc => cases hc; cases hu
  | 3, hc => cases hc; cases hu
  | 4, hc => cases hc; cases hu
  | 5, hc => cases hc; cases hu
  | 6, hc => cases hc; exact absurd (row_type h0 hb hu rfl) (by decide)
  | 7, hc => cases hc; exact absurd (row_type h1 hb hu rfl) (by decide)
  | 8, hc => cases hc; exact absurd (row_type h2 hb hu rfl) (by decide)
  | 9, hc => cases hc; exact absurd (row_type h3 hb hu rfl) (by decide)
  | 10, hc => cases hc; cases hu
  | 11, hc => cases hc; cases hu
  | k + 12, hc => simp at hc
section
variable (W : World) (g : Nat) (y0 y1 y2 y3 y4 y5 y6 y7 y8 y9 ya yb : Value)
/-- The world with twelve cells of block g set. -/
abbrev put12 : World := (((((((((((W.setCell ⟨g, 0, none⟩ y0).setCell ⟨g, 1, none⟩ y1).setCell ⟨g, 2, none⟩ y2).setCell ⟨g, 3, none⟩ y3).setCell ⟨g, 4, none⟩ y4).setCell ⟨g, 5, none⟩ y5).setCell ⟨g, 6, none⟩ y6).setCell ⟨g, 7, none⟩ y7).setCell ⟨g, 8, none⟩ y8).setCell ⟨g, 9, none⟩ y9).setCell ⟨g, 10, none⟩ ya).setCell ⟨g, 11, none⟩ yb
end
theorem BoxS.put {W : World} {B g : Nat} {x0 x1 x2 x3 x4 x5 x6 x7 x8 x9 xa xb : Value} (h : BoxS W B g [x0, x1, x2, x3, x4, x5, x6, x7, x8, x9, xa, xb]) (y0 y1 y2 y3 y4 y5 y6 y7 y8 y9 ya yb : Value) :
    BoxS (put12 W g y0 y1 y2 y3 y4 y5 y6 y7 y8 y9 ya yb) B g [y0, y1, y2, y3, y4, y5, y6, y7, y8, y9, ya, yb] := by
  have h0 := (World.ownsRow.stored h 0 y0).1
  have h1 := (World.ownsRow.stored h0 1 y1).1
  have h2 := (World.ownsRow.stored h1 2 y2).1
  have h3 := (World.ownsRow.stored h2 3 y3).1
  have h4 := (World.ownsRow.stored h3 4 y4).1
  have h5 := (World.ownsRow.stored h4 5 y5).1
  have h6 := (World.ownsRow.stored h5 6 y6).1
  have h7 := (World.ownsRow.stored h6 7 y7).1
  have h8 := (World.ownsRow.stored h7 8 y8).1
  have h9 := (World.ownsRow.stored h8 9 y9).1
  have ha := (World.ownsRow.stored h9 10 ya).1
  exact (World.ownsRow.stored ha 11 yb).1
end Go.Proofs.Ytlmllnbibiihhaa
/- Wd -/
set_option linter.unusedVariables false
namespace Go.Proofs.Ytlmllnbibiihhaa
open Go.RowKit

/-- Records and a code: what is planned. -/
def RecsA (w : World) (a : List RecD × Int) (e : Ending) (w' : World) : Prop := ∃ v, e = .returned (.tuple #[v, .int .i64 a.2]) ∧ OR w' w.heap.size v a.1 ∧ Below w.heap.size w w'
theorem RecsA.back {w w1 w2 : World} {a : List RecD × Int} {e : Ending} (h : RecsA w1 a e w2) (K : Below w.heap.size w w1) : RecsA w a e w2 := by
  obtain ⟨v, he, ho, hb⟩ := h
  exact ⟨v, he, ho.base K.size, K.trans (hb.mono K.size)⟩
theorem OR.first {w : World} {B : Nat} (hB : B ≤ w.heap.size) (k a b : Int) : OR (w.alloc (.cells #[.int .i64 k, .int .i64 a, .int .i64 b] 69)) B (.slice (some ⟨w.heap.size, 0, none⟩) 1 1) [⟨k, a, b⟩] :=
  own_of_heap (heap_alloc_new w _) rfl rfl hB (by unfold maxLen; decide)
theorem l10No_any (c : Int) (w : World) : Calls Try.prog 29 #[.int .i64 c] w (RecsA w (noR c)) := by
  go_enter Try.func29, Try.ntmps29
  go_wp2
  go_ret2
  exact ⟨_, rfl, OR.empty (Nat.le_refl _), (Below.refl _ _).alloc (Nat.le_refl _) _⟩
end Go.Proofs.Ytlmllnbibiihhaa
/- Vc -/
set_option linter.unusedVariables false
namespace Go.Proofs.Ytlmllnbibiihhaa
open Go.RowKit

theorem aliveB_no {x : Int} (h0 : ¬ x = 0) (h1 : ¬ x = 1) (h2 : ¬ x = 2) (h3 : ¬ x = 3) : aliveB x = false := by
  rw [Bool.eq_false_iff]
  intro h
  rw [aliveB, inB_true] at h
  omega
set_option maxHeartbeats 1000000 in
theorem implAlive_any (x : Int) (w : World) : Calls Try.prog 90 #[.int .i64 x] w fun e w' => e = .returned (.bool (aliveB x)) ∧ w = w' := by
  by_cases h0 : x = 0
  · subst h0
    go_enter Try.func90, Try.ntmps90
    go_wp2
    all_goals (go_ret; exact ⟨ret_bool (by decide), rfl⟩)
  · by_cases h1 : x = 1
    · subst h1
      go_enter Try.func90, Try.ntmps90
      go_wp2
      all_goals (go_ret; exact ⟨ret_bool (by decide), rfl⟩)
    · by_cases h2 : x = 2
      · subst h2
        go_enter Try.func90, Try.ntmps90
        go_wp2
        all_goals (go_ret; exact ⟨ret_bool (by decide), rfl⟩)
      · by_cases h3 : x = 3
        · subst h3
          go_enter Try.func90, Try.ntmps90
          go_wp2
          all_goals (go_ret; exact ⟨ret_bool (by decide), rfl⟩)
        · go_enter Try.func90, Try.ntmps90
          go_wp2
          all_goals (go_ret; exact ⟨ret_bool (by rw [aliveB_no h0 h1 h2 h3]), rfl⟩)

end Go.Proofs.Ytlmllnbibiihhaa
/- VlA -/
set_option linter.unusedVariables false
namespace Go.Proofs.Ytlmllnbibiihhaa
open Go.RowKit

def liveP (s : StD) (i : Nat) : Bool := aliveB (podA s.pods i).1
theorem liveL_le (s : StD) : (liveL s).length ≤ s.pods.length := picks_le _ _
set_option maxRecDepth 100000 in
set_option maxHeartbeats 2000000 in
theorem implLiveIn_any (v : Value) (s : StD) (w : World) (h : IsSt w w.heap.size v s) (hn : s.pods.length ≤ 1048576) :
    Calls Try.prog 69 #[v] w (Listed w (liveL s)) := by
  obtain ⟨⟨E0, E1, E2, E3, k0, k1, k2, k3, rfl, s0, -, -, -⟩, -, -, -, -⟩ := h
  have S := Lib.hid s0
  have HN := Lib.hid hn
  have hn' : s.pods.length ≤ 2 ^ 63 - 1 := by omega
  clear s0 hn
  obtain ⟨i0, hi, hz0, hz1, hz2⟩ := info_parts info_i64
  have HI := Lib.hid hi
  have HZ0 := Lib.hid hz0
  have HZ1 := Lib.hid hz1
  have HZ2 := Lib.hid hz2
  clear hi hz0 hz1 hz2
  go_enter Try.func69, Try.ntmps69
  go_wp2
  have X1 := (Own.box w (stC E0 E1 E2 E3 s.pods.length k0 s.mnts.length k1 s.devs.length k2 s.lks.length k3 s.ph s.co s.ck s.bo s.ba s.lb s.gd s.pr) 47).alloc (.cells #[] 2)
  have O1 : ((w.alloc (.cells (stC E0 E1 E2 E3 s.pods.length k0 s.mnts.length k1 s.devs.length k2 s.lks.length k3 s.ph s.co s.ck s.bo s.ba s.lb s.gd s.pr) 47)).alloc (.cells #[] 2)).ownsRow (w.heap.size + 1) 2 1 (.slice (some ⟨w.heap.size + 1, 0, none⟩) 0 0) 0 [] := by
    have := World.ownsRow_made (base := w.heap.size + 1) (e := 2) (size := 1) (w.alloc (.cells (stC E0 E1 E2 E3 s.pods.length k0 s.mnts.length k1 s.devs.length k2 s.lks.length k3 s.ph s.co s.ck s.bo s.ba s.lb s.gd s.pr) 47)) #[] 0 (by simp) (Nat.zero_le _) rfl
    simpa using this
  go_loopw [3, 10] (fun v i wr => ∃ k : Nat, k ≤ s.pods.length ∧ i = .int .i64 k ∧ wr.ownsRow (w.heap.size + 1) 2 1 v (picks k (liveP s)).length ((picks k (liveP s)).map (Value.int .i64)) ∧
    Own w wr w.heap.size (stC E0 E1 E2 E3 s.pods.length k0 s.mnts.length k1 s.devs.length k2 s.lks.length k3 s.ph s.co s.ck s.bo s.ba s.lb s.gd s.pr)) (fun _ i _ => s.pods.length - (intOf i).toNat)
  case atStart => exact ⟨0, Nat.zero_le _, rfl, O1, X1⟩
  case round =>
    clear O1 X1
    obtain ⟨k, hk, rfl, O, X⟩ := hrel
    have HO := Lib.hid O
    clear O
    have hC := X.C
    have hz := X.z
    by_cases hlt : k < s.pods.length
    · have hle := picks_le k (liveP s)
      have h63 : (picks k (liveP s)).length + 1 ≤ maxLen := by have := HN.out; unfold maxLen; omega
      have hby : ((picks k (liveP s)).length + 1) * 8 ≤ 140737488355328 := by have := HN.out; omega
      have H63 := Lib.hid h63
      have HBY := Lib.hid hby
      clear h63 hby hle
      obtain ⟨b, off, rfl, hb, hc⟩ := (S.out.below X.K (Nat.le_refl _)).cell hlt
      have hp := podCs_at s.pods (i := k) hlt
      have q0 := (hc 0 (by decide)).trans hp.1
      have q1 := (hc 1 (by decide)).trans hp.2
      rw [Nat.add_zero] at q0
      clear hc hp
      cases hv : aliveB (podA s.pods k).1
      · have HV := Lib.hid (picks_no (n := k) (p := liveP s) hv)
        generalize podA s.pods k = r at q0 q1 hv
        obtain ⟨x, y⟩ := r
        dsimp only at q0 q1 hv
        go_wp2_with (go_at_call 90; refine (implAlive_any _ _).mono ?_; rintro e w' ⟨rfl, rfl⟩)
        refine ⟨⟨k + 1, by omega, by go_num, by rw [HV.out]; exact HO.out.alloc (.cells #[.int .i64 x, .int .i64 y] 72), X.alloc (.cells #[.int .i64 x, .int .i64 y] 72)⟩, by simp [intOf]; omega⟩
      · have HV := Lib.hid (picks_yes (n := k) (p := liveP s) hv)
        generalize podA s.pods k = r at q0 q1 hv
        obtain ⟨x, y⟩ := r
        dsimp only at q0 q1 hv
        go_wp2_with (first
          | (go_at_call 90; refine (implAlive_any _ _).mono ?_; rintro e w' ⟨rfl, rfl⟩)
          | (at_builtin; refine wpList_append_own _ rfl _ _ 23 rfl (w.heap.size + 1) 2 i0 (.int .i64 0) 1 8 Try.underlying23 HI.out HZ0.out HZ1.out HZ2.out rfl (by decide) _ _ _ rfl ((HO.out.alloc (.cells #[.int .i64 x, .int .i64 y] 72)).alloc _) ⟨wr.heap.size + 1, 0, none⟩ 1 1 [.int .i64 k] rfl rfl (by simpa [heap_size_alloc_] using cell_one_new (wr.alloc (.cells #[.int .i64 x, .int .i64 y] 72)) (.int .i64 k) 2) (fun x hx => by simp at hx; subst hx; rfl) H63.out HBY.out (by simp <;> omega) ?_; intro v' w4 hown' hgrow hnil))
        have X3 := (X.alloc (.cells #[.int .i64 x, .int .i64 y] 72)).alloc (.cells #[.int .i64 k] 2)
        refine ⟨⟨k + 1, by omega, by go_num, ?_, ?_⟩, by simp [intOf]; omega⟩
        · rw [HV.out]
          simpa using hown'
        · exact X3.grown hgrow fun g hg => by have := (HO.out.lt g hg).1; omega
    · obtain rfl : k = s.pods.length := by omega
      go_wp2
      go_ret
      exact ⟨_, rfl, ownsRow_base HO.out (Nat.le_succ _), X.K⟩

end Go.Proofs.Ytlmllnbibiihhaa
/- Vx -/
set_option linter.unusedVariables false
namespace Go.Proofs.Ytlmllnbibiihhaa
open Go.RowKit

/-- A state beside its plan: its cells. -/
abbrev besC (A0 A1 A2 A3 : Option Addr) (n0 c0 n1 c1 n2 c2 n3 c3 : Nat) (l p t : Int) (E0 E1 E2 E3 : Option Addr) (m0 k0 m1 k1 m2 k2 m3 k3 : Nat) (ph : Int) (co : Bool) (ck bo ba lb gd pr : Int) : Array Value :=
  #[.int .i64 ph, .int .i64 ck, .int .i64 bo, .int .i64 ba, .int .i64 lb, .int .i64 gd, .int .i64 pr,
    .slice A0 n0 c0, .slice A1 n1 c1, .slice A2 n2 c2, .slice A3 n3 c3, .int .i64 l, .int .i64 p, .int .i64 t, .bool co,
    .slice E0 m0 k0, .slice E1 m1 k1, .slice E2 m2 k2, .slice E3 m3 k3]
abbrev cntV (ph ck bo ba lb gd pr : Int) : Value := .agg #[.int .i64 ph, .int .i64 ck, .int .i64 bo, .int .i64 ba, .int .i64 lb, .int .i64 gd, .int .i64 pr]

section
variable (A0 A1 A2 A3 : Option Addr) (n0 c0 n1 c1 n2 c2 n3 c3 : Nat) (l p t : Int) (E0 E1 E2 E3 : Option Addr) (m0 k0 m1 k1 m2 k2 m3 k3 : Nat) (ph : Int) (co : Bool) (ck bo ba lb gd pr : Int)
set_option maxHeartbeats 4000000 in
theorem besidePlan_any (w : World) :
    Calls Try.prog 66 #[planV A0 A1 A2 A3 n0 c0 n1 c1 n2 c2 n3 c3 l p t, .agg (stC E0 E1 E2 E3 m0 k0 m1 k1 m2 k2 m3 k3 ph co ck bo ba lb gd pr)] w fun e w' =>
      e = .returned (.agg (besC A0 A1 A2 A3 n0 c0 n1 c1 n2 c2 n3 c3 l p t E0 E1 E2 E3 m0 k0 m1 k1 m2 k2 m3 k3 ph co ck bo ba lb gd pr)) ∧ Below w.heap.size w w' := by
  have T0 := Two.start w (planC A0 A1 A2 A3 n0 c0 n1 c1 n2 c2 n3 c3 l p t) (stC E0 E1 E2 E3 m0 k0 m1 k1 m2 k2 m3 k3 ph co ck bo ba lb gd pr) 42 47
  go_enter Try.func66, Try.ntmps66
  go_upto_region 1 with fail
  have X := Own.box2 T0.O.K (besC none none none none 0 0 0 0 0 0 0 0 0 0 0 none none none none 0 0 0 0 0 0 0 0 0 false 0 0 0 0 0 0) 117
  have T := T0.step ((Below.refl _ _).alloc (Nat.le_refl _) (.cells (besC none none none none 0 0 0 0 0 0 0 0 0 0 0 none none none none 0 0 0 0 0 0 0 0 0 false 0 0 0 0 0 0) 117))
  have hH := heap_alloc_new ((w.alloc (.cells (planC A0 A1 A2 A3 n0 c0 n1 c1 n2 c2 n3 c3 l p t) 42)).alloc (.cells (stC E0 E1 E2 E3 m0 k0 m1 k1 m2 k2 m3 k3 ph co ck bo ba lb gd pr) 47)) (.cells (besC none none none none 0 0 0 0 0 0 0 0 0 0 0 none none none none 0 0 0 0 0 0 0 0 0 false 0 0 0 0 0 0) 117)
  clear T0
  have hC := T.A.C
  have hD := T.O.C
  have K := X.K
  clear T X
  simp only [heap_size_alloc_] at *
  generalize hW : ((w.alloc _).alloc _).alloc _ = W at *
  clear hW
  have hi : (Try.prog.info? 117).map (·.size) = some (besC A0 A1 A2 A3 n0 c0 n1 c1 n2 c2 n3 c3 l p t E0 E1 E2 E3 m0 k0 m1 k1 m2 k2 m3 k3 ph co ck bo ba lb gd pr).size := by kernel_rfl
  have h1 : (besC A0 A1 A2 A3 n0 c0 n1 c1 n2 c2 n3 c3 l p t E0 E1 E2 E3 m0 k0 m1 k1 m2 k2 m3 k3 ph co ck bo ba lb gd pr).all (·.oneCell') = true := by simp [Value.oneCell']
  go_wp2_with (refine wpList_store_row rfl _ _ _ rfl (w.heap.size + 1 + 1) (besC A0 A1 A2 A3 n0 c0 n1 c1 n2 c2 n3 c3 l p t E0 E1 E2 E3 m0 k0 m1 k1 m2 k2 m3 k3 ph co ck bo ba lb gd pr) rfl rfl _ _ hH hi rfl h1 ?_)
  exact bodyPost_ret (v := .agg (besC A0 A1 A2 A3 n0 c0 n1 c1 n2 c2 n3 c3 l p t E0 E1 E2 E3 m0 k0 m1 k1 m2 k2 m3 k3 ph co ck bo ba lb gd pr)) (results_cell_row Try.results66 _ _ _ _ _ _ _ rfl (setRow_heap W _ _ _ _ _ hH) Try.underlying117 rfl hi) rfl ⟨rfl, below_setRow K (by omega) _⟩
end
end Go.Proofs.Ytlmllnbibiihhaa
