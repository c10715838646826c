/-
  The model's StateOk.
-/
import Derived.Test.YtdphpjnecjofeaaMZ0
import Derived.Test.YtdphpjnecjofeaaMZ1
import Derived.BigQuiet
import Derived.Deep.QuietTactic
import Derived.StillTailTactics
import Derived.Deep.RegionHeld3
/- Ua -/
set_option linter.unusedVariables false
namespace Go.Proofs.Ytdphpjnecjofeaa
open Go.RowKit

def podCs : List (Int × Int) → List Value
  | [] => []
  | q :: l => .int .i64 q.1 :: .int .i64 q.2 :: podCs l
def mntCs : List (Bool × Int) → List Value
  | [] => []
  | q :: l => .bool q.1 :: .int .i64 q.2 :: mntCs l
def devCs (l : List Bool) : List Value := l.map Value.bool
def lkCs (l : List Int) : List Value := l.map (Value.int .i64)
theorem podCs_len (l : List (Int × Int)) : (podCs l).length = l.length * 2 := by
  induction l with
  | nil => rfl
  | cons q l ih => simp only [podCs, List.length_cons, ih]; omega
theorem mntCs_len (l : List (Bool × Int)) : (mntCs l).length = l.length * 2 := by
  induction l with
  | nil => rfl
  | cons q l ih => simp only [mntCs, List.length_cons, ih]; omega
theorem devCs_len (l : List Bool) : (devCs l).length = l.length * 1 := by simp [devCs]
theorem lkCs_len (l : List Int) : (lkCs l).length = l.length * 1 := by simp [lkCs]
def podA (l : List (Int × Int)) (i : Nat) : Int × Int := l.getD i (0, 0)
def mntA (l : List (Bool × Int)) (i : Nat) : Bool × Int := l.getD i (false, 0)
def devA (l : List Bool) (i : Nat) : Bool := l.getD i false
def lkA (l : List Int) (i : Nat) : Int := l.getD i 0
theorem podCs_at (l : List (Int × Int)) {i : Nat} (hi : i < l.length) : (podCs l)[i * 2]? = some (.int .i64 (podA l i).1) ∧ (podCs l)[i * 2 + 1]? = some (.int .i64 (podA l i).2) := by
  induction l generalizing i with
  | nil => exact absurd hi (Nat.not_lt_zero _)
  | cons q l ih =>
    cases i with
    | zero => exact ⟨rfl, rfl⟩
    | succ i =>
      have := ih (i := i) (by simpa using hi)
      rw [show (i + 1) * 2 = i * 2 + 1 + 1 by omega]
      simpa [podCs, podA] using this
theorem mntCs_at (l : List (Bool × Int)) {i : Nat} (hi : i < l.length) : (mntCs l)[i * 2]? = some (.bool (mntA l i).1) ∧ (mntCs l)[i * 2 + 1]? = some (.int .i64 (mntA l i).2) := by
  induction l generalizing i with
  | nil => exact absurd hi (Nat.not_lt_zero _)
  | cons q l ih =>
    cases i with
    | zero => exact ⟨rfl, rfl⟩
    | succ i =>
      have := ih (i := i) (by simpa using hi)
      rw [show (i + 1) * 2 = i * 2 + 1 + 1 by omega]
      simpa [mntCs, mntA] using this
theorem devCs_at (l : List Bool) {i : Nat} (hi : i < l.length) : (devCs l)[i]? = some (.bool (devA l i)) := by simp [devCs, devA, List.getD, hi]
theorem lkCs_at (l : List Int) {i : Nat} (hi : i < l.length) : (lkCs l)[i]? = some (.int .i64 (lkA l i)) := by simp [lkCs, lkA, List.getD, hi]
theorem podCs_set (l : List (Int × Int)) {i : Nat} (hi : i < l.length) (q : Int × Int) : podCs (l.set i q) = ((podCs l).set (i * 2) (.int .i64 q.1)).set (i * 2 + 1) (.int .i64 q.2) := by
  induction l generalizing i with
  | nil => exact absurd hi (Nat.not_lt_zero _)
  | cons r l ih =>
    cases i with
    | zero => rfl
    | succ i =>
      rw [show (i + 1) * 2 = i * 2 + 1 + 1 by omega]
      simp only [List.set_cons_succ, podCs]
      rw [ih (by simpa using hi)]
theorem mntCs_set (l : List (Bool × Int)) {i : Nat} (hi : i < l.length) (q : Bool × Int) : mntCs (l.set i q) = ((mntCs l).set (i * 2) (.bool q.1)).set (i * 2 + 1) (.int .i64 q.2) := by
  induction l generalizing i with
  | nil => exact absurd hi (Nat.not_lt_zero _)
  | cons r l ih =>
    cases i with
    | zero => rfl
    | succ i =>
      rw [show (i + 1) * 2 = i * 2 + 1 + 1 by omega]
      simp only [List.set_cons_succ, mntCs]
      rw [ih (by simpa using hi)]
theorem devCs_set (l : List Bool) (i : Nat) (q : Bool) : devCs (l.set i q) = (devCs l).set i (.bool q) := by unfold devCs; rw [List.map_set]

/-- The cells of a state. -/
abbrev stC (A0 A1 A2 A3 : Option Addr) (n0 c0 n1 c1 n2 c2 n3 c3 : Nat) (ph : Int) (co : Bool) (ck bo ba lb gd pr : Int) : Array Value :=
  #[.int .i64 ph, .bool co, .int .i64 ck, .int .i64 bo, .int .i64 ba, .int .i64 lb, .slice A0 n0 c0, .slice A1 n1 c1, .slice A2 n2 c2, .slice A3 n3 c3, .int .i64 gd, .int .i64 pr]
/-- A state that can be read below block B. -/
structure IsSt (w : World) (B : Nat) (v : Value) (s : StD) : Prop where
  it : ∃ A0 A1 A2 A3 c0 c1 c2 c3, v = .agg (stC A0 A1 A2 A3 s.pods.length c0 s.mnts.length c1 s.devs.length c2 s.lks.length c3 s.ph s.co s.ck s.bo s.ba s.lb s.gd s.pr) ∧
    SlV w B 2 A0 s.pods.length (podCs s.pods) ∧ SlV w B 2 A1 s.mnts.length (mntCs s.mnts) ∧ SlV w B 1 A2 s.devs.length (devCs s.devs) ∧ SlV w B 1 A3 s.lks.length (lkCs s.lks)
  b0 : s.pods.length ≤ maxLen
  b1 : s.mnts.length ≤ maxLen
  b2 : s.devs.length ≤ maxLen
  b3 : s.lks.length ≤ maxLen
theorem IsSt.below {w w' : World} {B B' : Nat} {v : Value} {s : StD} (h : IsSt w B v s) (hb : Below B' w w') (hB : B ≤ B') : IsSt w' B v s := by
  obtain ⟨⟨A0, A1, A2, A3, c0, c1, c2, c3, hv, h0, h1, h2, h3⟩, b0, b1, b2, b3⟩ := h
  exact ⟨⟨A0, A1, A2, A3, c0, c1, c2, c3, hv, h0.below hb hB, h1.below hb hB, h2.below hb hB, h3.below hb hB⟩, b0, b1, b2, b3⟩
theorem IsSt.more {w : World} {B B' : Nat} {v : Value} {s : StD} (h : IsSt w B v s) (hB : B ≤ B') : IsSt w B' v s := by
  obtain ⟨⟨A0, A1, A2, A3, c0, c1, c2, c3, hv, h0, h1, h2, h3⟩, b0, b1, b2, b3⟩ := h
  exact ⟨⟨A0, A1, A2, A3, c0, c1, c2, c3, hv, h0.more hB, h1.more hB, h2.more hB, h3.more hB⟩, b0, b1, b2, b3⟩
theorem IsSt.go {w w' : World} {v : Value} {s : StD} (h : IsSt w w.heap.size v s) (hb : Below w.heap.size w w') : IsSt w' w'.heap.size v s := (h.below hb (Nat.le_refl _)).more hb.size
/-- A state of the call's own: each list in a block of its own, from block B on. -/
structure OwnSt (w : World) (B : Nat) (v : Value) (s : StD) : Prop where
  it : ∃ v0 v1 v2 v3, v = .agg #[.int .i64 s.ph, .bool s.co, .int .i64 s.ck, .int .i64 s.bo, .int .i64 s.ba, .int .i64 s.lb, v0, v1, v2, v3, .int .i64 s.gd, .int .i64 s.pr] ∧
    w.ownsRow B 96 2 v0 s.pods.length (podCs s.pods) ∧ w.ownsRow B 98 2 v1 s.mnts.length (mntCs s.mnts) ∧
    w.ownsRow B 4 1 v2 s.devs.length (devCs s.devs) ∧ w.ownsRow B 2 1 v3 s.lks.length (lkCs s.lks)
theorem OwnSt.below {w w' : World} {B : Nat} {v : Value} {s : StD} (h : OwnSt w B v s) (hb : Below w.heap.size w w') : OwnSt w' B v s := by
  obtain ⟨v0, v1, v2, v3, hv, h0, h1, h2, h3⟩ := h.it
  exact ⟨v0, v1, v2, v3, hv, ownsRow_below h0 hb, ownsRow_below h1 hb, ownsRow_below h2 hb, ownsRow_below h3 hb⟩
theorem OwnSt.base {w : World} {B B' : Nat} {v : Value} {s : StD} (h : OwnSt w B v s) (hB : B' ≤ B) : OwnSt w B' v s := by
  obtain ⟨v0, v1, v2, v3, hv, h0, h1, h2, h3⟩ := h.it
  exact ⟨v0, v1, v2, v3, hv, ownsRow_base h0 hB, ownsRow_base h1 hB, ownsRow_base h2 hB, ownsRow_base h3 hB⟩
theorem OwnSt.st {w : World} {B : Nat} {v : Value} {s : StD} (h : OwnSt w B v s) : IsSt w w.heap.size v s := by
  obtain ⟨v0, v1, v2, v3, rfl, h0, h1, h2, h3⟩ := h.it
  obtain ⟨A0, c0, g0, rfl, -, -, -, -, -, s0, b0⟩ := open_row h0
  obtain ⟨A1, c1, g1, rfl, -, -, -, -, -, s1, b1⟩ := open_row h1
  obtain ⟨A2, c2, g2, rfl, -, -, -, -, -, s2, b2⟩ := open_row h2
  obtain ⟨A3, c3, g3, rfl, -, -, -, -, -, s3, b3⟩ := open_row h3
  exact ⟨⟨A0, A1, A2, A3, c0, c1, c2, c3, rfl, s0, s1, s2, s3⟩, b0, b1, b2, b3⟩
theorem OwnSt.zero (w : World) (B : Nat) : OwnSt w B (.agg (stC none none none none 0 0 0 0 0 0 0 0 0 false 0 0 0 0 0 0)) zeroS :=
  ⟨_, _, _, _, rfl, World.ownsRow_nil _ _ _ _, World.ownsRow_nil _ _ _ _, World.ownsRow_nil _ _ _ _, World.ownsRow_nil _ _ _ _⟩
end Go.Proofs.Ytdphpjnecjofeaa
/- Ub -/
set_option linter.unusedVariables false
namespace Go.Proofs.Ytdphpjnecjofeaa
open Go.RowKit

theorem info_podAt : (Try.prog.info? 96).map (fun i => (i.zero, i.size, i.bytes)) = some (some (.agg #[.int .i64 0, .int .i64 0]), 2, 16) := by kernel_rfl
theorem info_mountAt : (Try.prog.info? 98).map (fun i => (i.zero, i.size, i.bytes)) = some (some (.agg #[.bool false, .int .i64 0]), 2, 16) := by kernel_rfl
theorem info_bool : (Try.prog.info? 4).map (fun i => (i.zero, i.size, i.bytes)) = some (some (.bool false), 1, 1) := by kernel_rfl
theorem info_int : (Try.prog.info? 2).map (fun i => (i.zero, i.size, i.bytes)) = some (some (.int .i64 0), 1, 8) := by kernel_rfl

set_option maxHeartbeats 400000 in
theorem toPodAt_any (a b : Int) (w : World) :
    Calls Try.prog 99 #[.agg #[.int .i64 a, .int .i64 b]] w fun e w' => e = .returned (.agg #[.int .i64 a, .int .i64 b]) ∧ Below w.heap.size w w' := by
  go_enter Try.func99, Try.ntmps99
  go_wp2
  exact bodyPost_ret (v := .agg #[.int .i64 a, .int .i64 b]) (by simp [results, Try.results99, go_sem]) rfl ⟨rfl, (((Below.refl _ _).alloc (Nat.le_refl _) _).alloc (by simp) _).alloc (by simp; omega) _⟩
set_option maxHeartbeats 400000 in
theorem toMountAt_any (a : Bool) (b : Int) (w : World) :
    Calls Try.prog 100 #[.agg #[.bool a, .int .i64 b]] w fun e w' => e = .returned (.agg #[.bool a, .int .i64 b]) ∧ Below w.heap.size w w' := by
  go_enter Try.func100, Try.ntmps100
  go_wp2
  exact bodyPost_ret (v := .agg #[.bool a, .int .i64 b]) (by simp [results, Try.results100, go_sem]) rfl ⟨rfl, (((Below.refl _ _).alloc (Nat.le_refl _) _).alloc (by simp) _).alloc (by simp; omega) _⟩
set_option maxHeartbeats 400000 in
theorem eqPodAt_same (a b : Int) (w : World) :
    Calls Try.prog 104 #[.agg #[.int .i64 a, .int .i64 b], .agg #[.int .i64 a, .int .i64 b]] w fun e w' => e = .returned (.bool true) ∧ Below w.heap.size w w' := by
  go_enter Try.func104, Try.ntmps104
  go_wp2
  go_ret
  exact ⟨rfl, ((Below.refl _ _).alloc (Nat.le_refl _) _).alloc (by simp) _⟩
set_option maxHeartbeats 400000 in
theorem eqMountAt_same (a : Bool) (b : Int) (w : World) :
    Calls Try.prog 105 #[.agg #[.bool a, .int .i64 b], .agg #[.bool a, .int .i64 b]] w fun e w' => e = .returned (.bool true) ∧ Below w.heap.size w w' := by
  go_enter Try.func105, Try.ntmps105
  cases a
  all_goals
    go_wp2
    go_ret
    exact ⟨rfl, ((Below.refl _ _).alloc (Nat.le_refl _) _).alloc (by simp) _⟩

set_option maxHeartbeats 1000000 in
theorem toPodAtS_any (A : Option Addr) (c : Nat) (l : List (Int × Int)) (w : World) (h : SlV w w.heap.size 2 A l.length (podCs l)) (hn : l.length ≤ 1048576) :
    Calls Try.prog 53 #[.slice A l.length c] w (MadeV w l.length (podCs l)) := by
  have S := Lib.hid h
  clear h
  obtain ⟨i0, hi, hz0, hz1, hz2⟩ := info_parts info_podAt
  have hcl := podCs_len l
  generalize hq : l.length = n at *
  have HQ := Lib.hid hq
  have HN := Lib.hid hn
  have hn' : n ≤ 2 ^ 63 - 1 := by omega
  have HCL := Lib.hid hcl
  clear hn hq hcl
  go_enter Try.func53, Try.ntmps53
  go_wp2_with (at_make; refine wpList_make_full _ rfl _ _ 43 rfl w.heap.size 96 i0 (.agg #[.int .i64 0, .int .i64 0]) 2 Try.underlying43 hi hz0 hz1 _ _ _ _ n rfl rfl rfl rfl ?b2 ?b3 (Nat.le_refl _) ?_)
  case b2 => have := HN.out; rw [hz2]; omega
  case b3 => have := HN.out; unfold maxLen; omega
  intro w1 hown hgrow
  have X : CopyV w w1 0 (podCs l) := CopyV.start hown hgrow HCL.out
  clear hown hgrow hz0 hz1 hz2 hi
  go_wp2
  go_loopw [4] (fun i wr => ∃ k : Nat, k ≤ n ∧ i = .int .i64 k ∧ CopyV w wr (k * 2) (podCs l)) (fun i _ => n - (intOf i).toNat)
  case atStart => exact ⟨0, Nat.zero_le _, rfl, by simpa using X⟩
  case round =>
    clear X
    obtain ⟨k, hk, rfl, X⟩ := hrel
    by_cases hlt : k < n
    · obtain ⟨b, off, rfl, hb, hc⟩ := ((S.out.below X.K (Nat.le_refl _)).more X.K.size).cell hlt
      have hp := podCs_at l (i := k) (by rw [HQ.out]; exact hlt)
      have q0 := (hc 0 (by decide)).trans hp.1
      have q1 := (hc 1 (by decide)).trans hp.2
      rw [Nat.add_zero] at q0
      have HP := Lib.hid hp
      clear hc hp
      generalize podA l k = r at *
      obtain ⟨x, y⟩ := r
      dsimp only at q0 q1
      go_wp2_with (go_at_call 99; refine (toPodAt_any _ _ _).mono ?_; rintro e w2 ⟨rfl, hb2⟩; have X2 := X.step hb2; obtain ⟨v0, t0, f0⟩ := X2.at_ (j := k * 2) (by rw [HCL.out]; omega); obtain ⟨v1, t1, f1⟩ := X2.at_ (j := k * 2 + 1) (by rw [HCL.out]; omega); clear hb2)
      refine ⟨⟨k + 1, by omega, by go_num, ?_⟩, by simp [intOf]; omega⟩
      have e : (k + 1) * 2 = k * 2 + 1 + 1 := by omega
      rw [e]
      exact (X2.set HP.out.1).set HP.out.2
    · obtain rfl : k = n := by omega
      go_wp2
      go_ret
      exact X.made (by rw [HCL.out]; exact Nat.le_refl _)
set_option maxHeartbeats 1000000 in
theorem toMountAtS_any (A : Option Addr) (c : Nat) (l : List (Bool × Int)) (w : World) (h : SlV w w.heap.size 2 A l.length (mntCs l)) (hn : l.length ≤ 1048576) :
    Calls Try.prog 54 #[.slice A l.length c] w (MadeV w l.length (mntCs l)) := by
  have S := Lib.hid h
  clear h
  obtain ⟨i0, hi, hz0, hz1, hz2⟩ := info_parts info_mountAt
  have hcl := mntCs_len l
  generalize hq : l.length = n at *
  have HQ := Lib.hid hq
  have HN := Lib.hid hn
  have hn' : n ≤ 2 ^ 63 - 1 := by omega
  have HCL := Lib.hid hcl
  clear hn hq hcl
  go_enter Try.func54, Try.ntmps54
  go_wp2_with (at_make; refine wpList_make_full _ rfl _ _ 44 rfl w.heap.size 98 i0 (.agg #[.bool false, .int .i64 0]) 2 Try.underlying44 hi hz0 hz1 _ _ _ _ n rfl rfl rfl rfl ?b2 ?b3 (Nat.le_refl _) ?_)
  case b2 => have := HN.out; rw [hz2]; omega
  case b3 => have := HN.out; unfold maxLen; omega
  intro w1 hown hgrow
  have X : CopyV w w1 0 (mntCs l) := CopyV.start hown hgrow HCL.out
  clear hown hgrow hz0 hz1 hz2 hi
  go_wp2
  go_loopw [4] (fun i wr => ∃ k : Nat, k ≤ n ∧ i = .int .i64 k ∧ CopyV w wr (k * 2) (mntCs l)) (fun i _ => n - (intOf i).toNat)
  case atStart => exact ⟨0, Nat.zero_le _, rfl, by simpa using X⟩
  case round =>
    clear X
    obtain ⟨k, hk, rfl, X⟩ := hrel
    by_cases hlt : k < n
    · obtain ⟨b, off, rfl, hb, hc⟩ := ((S.out.below X.K (Nat.le_refl _)).more X.K.size).cell hlt
      have hp := mntCs_at l (i := k) (by rw [HQ.out]; exact hlt)
      have q0 := (hc 0 (by decide)).trans hp.1
      have q1 := (hc 1 (by decide)).trans hp.2
      rw [Nat.add_zero] at q0
      have HP := Lib.hid hp
      clear hc hp
      generalize mntA l k = r at *
      obtain ⟨x, y⟩ := r
      dsimp only at q0 q1
      go_wp2_with (go_at_call 100; refine (toMountAt_any _ _ _).mono ?_; rintro e w2 ⟨rfl, hb2⟩; have X2 := X.step hb2; obtain ⟨v0, t0, f0⟩ := X2.at_ (j := k * 2) (by rw [HCL.out]; omega); obtain ⟨v1, t1, f1⟩ := X2.at_ (j := k * 2 + 1) (by rw [HCL.out]; omega); clear hb2)
      refine ⟨⟨k + 1, by omega, by go_num, ?_⟩, by simp [intOf]; omega⟩
      have e : (k + 1) * 2 = k * 2 + 1 + 1 := by omega
      rw [e]
      exact (X2.set HP.out.1).set HP.out.2
    · obtain rfl : k = n := by omega
      go_wp2
      go_ret
      exact X.made (by rw [HCL.out]; exact Nat.le_refl _)
set_option maxHeartbeats 1000000 in
theorem toBoolS_any (A : Option Addr) (c : Nat) (l : List Bool) (w : World) (h : SlV w w.heap.size 1 A l.length (devCs l)) (hn : l.length ≤ 1048576) :
    Calls Try.prog 55 #[.slice A l.length c] w (MadeV w l.length (devCs l)) := by
  have S := Lib.hid h
  clear h
  obtain ⟨i0, hi, hz0, hz1, hz2⟩ := info_parts info_bool
  have hcl := devCs_len l
  generalize hq : l.length = n at *
  have HQ := Lib.hid hq
  have HN := Lib.hid hn
  have hn' : n ≤ 2 ^ 63 - 1 := by omega
  have HCL := Lib.hid hcl
  clear hn hq hcl
  go_enter Try.func55, Try.ntmps55
  go_wp2_with (at_make; refine wpList_make_full _ rfl _ _ 30 rfl w.heap.size 4 i0 (.bool false) 1 Try.underlying30 hi hz0 hz1 _ _ _ _ n rfl rfl rfl rfl ?b2 ?b3 (Nat.le_refl _) ?_)
  case b2 => have := HN.out; rw [hz2]; omega
  case b3 => have := HN.out; unfold maxLen; omega
  intro w1 hown hgrow
  have X : CopyV w w1 0 (devCs l) := CopyV.start hown hgrow HCL.out
  clear hown hgrow hz0 hz1 hz2 hi
  go_wp2
  go_loopw [4] (fun i wr => ∃ k : Nat, k ≤ n ∧ i = .int .i64 k ∧ CopyV w wr k (devCs l)) (fun i _ => n - (intOf i).toNat)
  case atStart => exact ⟨0, Nat.zero_le _, rfl, X⟩
  case round =>
    clear X
    obtain ⟨k, hk, rfl, X⟩ := hrel
    by_cases hlt : k < n
    · obtain ⟨b, off, rfl, hb, hc⟩ := ((S.out.below X.K (Nat.le_refl _)).more X.K.size).cell hlt
      have hp := devCs_at l (i := k) (by rw [HQ.out]; exact hlt)
      have q0 := hc 0 (by decide)
      rw [Nat.add_zero, Nat.mul_one, Nat.add_zero, hp] at q0
      have HP := Lib.hid hp
      clear hc hp
      generalize devA l k = x at *
      obtain ⟨v0, t0, f0⟩ := X.at_ (j := k) (by rw [HCL.out]; omega)
      go_wp2
      exact ⟨⟨k + 1, by omega, by go_num, X.set HP.out⟩, by simp [intOf]; omega⟩
    · obtain rfl : k = n := by omega
      go_wp2
      go_ret
      exact X.made (by rw [HCL.out]; omega)
set_option maxHeartbeats 1000000 in
theorem toInts_any (A : Option Addr) (c : Nat) (l : List Int) (w : World) (h : SlV w w.heap.size 1 A l.length (lkCs l)) (hn : l.length ≤ 1048576) :
    Calls Try.prog 50 #[.slice A l.length c] w (MadeV w l.length (lkCs l)) := by
  have S := Lib.hid h
  clear h
  obtain ⟨i0, hi, hz0, hz1, hz2⟩ := info_parts info_int
  have hcl := lkCs_len l
  generalize hq : l.length = n at *
  have HQ := Lib.hid hq
  have HN := Lib.hid hn
  have hn' : n ≤ 2 ^ 63 - 1 := by omega
  have HCL := Lib.hid hcl
  clear hn hq hcl
  go_enter Try.func50, Try.ntmps50
  go_wp2_with (at_make; refine wpList_make_full _ rfl _ _ 23 rfl w.heap.size 2 i0 (.int .i64 0) 1 Try.underlying23 hi hz0 hz1 _ _ _ _ n rfl rfl rfl rfl ?b2 ?b3 (Nat.le_refl _) ?_)
  case b2 => have := HN.out; rw [hz2]; omega
  case b3 => have := HN.out; unfold maxLen; omega
  intro w1 hown hgrow
  have X : CopyV w w1 0 (lkCs l) := CopyV.start hown hgrow HCL.out
  clear hown hgrow hz0 hz1 hz2 hi
  go_wp2
  go_loopw [4] (fun i wr => ∃ k : Nat, k ≤ n ∧ i = .int .i64 k ∧ CopyV w wr k (lkCs l)) (fun i _ => n - (intOf i).toNat)
  case atStart => exact ⟨0, Nat.zero_le _, rfl, X⟩
  case round =>
    clear X
    obtain ⟨k, hk, rfl, X⟩ := hrel
    by_cases hlt : k < n
    · obtain ⟨b, off, rfl, hb, hc⟩ := ((S.out.below X.K (Nat.le_refl _)).more X.K.size).cell hlt
      have hp := lkCs_at l (i := k) (by rw [HQ.out]; exact hlt)
      have q0 := hc 0 (by decide)
      rw [Nat.add_zero, Nat.mul_one, Nat.add_zero, hp] at q0
      have HP := Lib.hid hp
      clear hc hp
      generalize lkA l k = x at *
      obtain ⟨v0, t0, f0⟩ := X.at_ (j := k) (by rw [HCL.out]; omega)
      go_wp2
      exact ⟨⟨k + 1, by omega, by go_num, X.set HP.out⟩, by simp [intOf]; omega⟩
    · obtain rfl : k = n := by omega
      go_wp2
      go_ret
      exact X.made (by rw [HCL.out]; omega)
end Go.Proofs.Ytdphpjnecjofeaa
/- Uc -/
set_option linter.unusedVariables false
namespace Go.Proofs.Ytdphpjnecjofeaa
open Go.RowKit

set_option maxHeartbeats 1000000 in
theorem eqPodAtS_same (A A' : Option Addr) (c c' : Nat) (l : List (Int × Int)) (w : World) (h : SlV w w.heap.size 2 A l.length (podCs l)) (h' : SlV w w.heap.size 2 A' l.length (podCs l)) (hl : l.length ≤ maxLen) :
    Calls Try.prog 63 #[.slice A l.length c, .slice A' l.length c'] w fun e w' => e = .returned (.bool true) ∧ Below w.heap.size w w' := by
  have H := Lib.hid h
  have H' := Lib.hid h'
  have hl' : l.length ≤ 2 ^ 63 - 1 := by unfold maxLen at hl; omega
  clear hl h h'
  generalize hq : l.length = n at *
  have HQ := Lib.hid hq
  clear hq
  go_enter Try.func63, Try.ntmps63
  go_wp2
  go_loopw [5] (fun i wr => ∃ k : Nat, k ≤ n ∧ i = .int .i64 k ∧ Below w.heap.size w wr) (fun i _ => n - (intOf i).toNat)
  case atStart => exact ⟨0, Nat.zero_le _, rfl, Below.refl _ _⟩
  case round =>
    obtain ⟨k, hk, rfl, K⟩ := hrel
    by_cases hlt : k < n
    · obtain ⟨b, off, rfl, hb, hc⟩ := (H.out.below K (Nat.le_refl _)).cell hlt
      obtain ⟨b', off', rfl, hb', hc'⟩ := (H'.out.below K (Nat.le_refl _)).cell hlt
      have hp := podCs_at l (i := k) (by rw [HQ.out]; exact hlt)
      have q0 := (hc 0 (by decide)).trans hp.1
      have q1 := (hc 1 (by decide)).trans hp.2
      have r0 := (hc' 0 (by decide)).trans hp.1
      have r1 := (hc' 1 (by decide)).trans hp.2
      rw [Nat.add_zero] at q0 r0
      clear hc hc' hp
      generalize podA l k = r at *
      obtain ⟨x, y⟩ := r
      dsimp only at q0 q1 r0 r1
      have HBB := Lib.hid hb
      have HBB' := Lib.hid hb'
      clear hb hb'
      have S0 : (wr.cell? ⟨b, off + k * 2, none⟩ = some (.int .i64 x) ∧ wr.cell? ⟨b, off + k * 2 + 1, none⟩ = some (.int .i64 y)) ∧ (wr.cell? ⟨b', off' + k * 2, none⟩ = some (.int .i64 x) ∧ wr.cell? ⟨b', off' + k * 2 + 1, none⟩ = some (.int .i64 y)) ∧ Below w.heap.size w wr := ⟨⟨q0, q1⟩, ⟨r0, r1⟩, K⟩
      clear q0 q1 r0 r1
      go_wp2_with fail
      go_region_held3 (fun w' => (w'.cell? ⟨b, off + k * 2, none⟩ = some (.int .i64 x) ∧ w'.cell? ⟨b, off + k * 2 + 1, none⟩ = some (.int .i64 y)) ∧ (w'.cell? ⟨b', off' + k * 2, none⟩ = some (.int .i64 x) ∧ w'.cell? ⟨b', off' + k * 2 + 1, none⟩ = some (.int .i64 y)) ∧ Below w.heap.size w w')
        (first | exact S0 | exact S1 | exact ⟨S0.1, S0.2.1, S0.2.2.drew⟩)
        (first
          | (go_at_call 104
             refine (eqPodAt_same _ _ _).mono ?_
             rintro e w2 ⟨rfl, hb2⟩
             have L2 : wr.heap.size ≤ w2.heap.size := hb2.size
             have hs : w.heap.size ≤ wr.heap.size := K.size
             have S1 : (w2.cell? ⟨b, off + k * 2, none⟩ = some (.int .i64 x) ∧ w2.cell? ⟨b, off + k * 2 + 1, none⟩ = some (.int .i64 y)) ∧ (w2.cell? ⟨b', off' + k * 2, none⟩ = some (.int .i64 x) ∧ w2.cell? ⟨b', off' + k * 2 + 1, none⟩ = some (.int .i64 y)) ∧ Below w.heap.size w w2 :=
               ⟨⟨(hb2.cell (p := ⟨b, off + k * 2, none⟩) (Nat.lt_of_lt_of_le HBB.out hs)).trans S0.1.1, (hb2.cell (p := ⟨b, off + k * 2 + 1, none⟩) (Nat.lt_of_lt_of_le HBB.out hs)).trans S0.1.2⟩, ⟨(hb2.cell (p := ⟨b', off' + k * 2, none⟩) (Nat.lt_of_lt_of_le HBB'.out hs)).trans S0.2.1.1, (hb2.cell (p := ⟨b', off' + k * 2 + 1, none⟩) (Nat.lt_of_lt_of_le HBB'.out hs)).trans S0.2.1.2⟩, K.drew.trans (hb2.mono K.size)⟩))
      have K2 := S1.2.2
      clear S0 S1
      go_wp2
      exact ⟨⟨k + 1, by omega, by go_num, K2⟩, by simp [intOf]; omega⟩
    · obtain rfl : k = n := by omega
      go_wp2
      go_ret
      exact ⟨rfl, K⟩

set_option maxHeartbeats 1000000 in
theorem eqMountAtS_same (A A' : Option Addr) (c c' : Nat) (l : List (Bool × Int)) (w : World) (h : SlV w w.heap.size 2 A l.length (mntCs l)) (h' : SlV w w.heap.size 2 A' l.length (mntCs l)) (hl : l.length ≤ maxLen) :
    Calls Try.prog 64 #[.slice A l.length c, .slice A' l.length c'] w fun e w' => e = .returned (.bool true) ∧ Below w.heap.size w w' := by
  have H := Lib.hid h
  have H' := Lib.hid h'
  have hl' : l.length ≤ 2 ^ 63 - 1 := by unfold maxLen at hl; omega
  clear hl h h'
  generalize hq : l.length = n at *
  have HQ := Lib.hid hq
  clear hq
  go_enter Try.func64, Try.ntmps64
  go_wp2
  go_loopw [5] (fun i wr => ∃ k : Nat, k ≤ n ∧ i = .int .i64 k ∧ Below w.heap.size w wr) (fun i _ => n - (intOf i).toNat)
  case atStart => exact ⟨0, Nat.zero_le _, rfl, Below.refl _ _⟩
  case round =>
    obtain ⟨k, hk, rfl, K⟩ := hrel
    by_cases hlt : k < n
    · obtain ⟨b, off, rfl, hb, hc⟩ := (H.out.below K (Nat.le_refl _)).cell hlt
      obtain ⟨b', off', rfl, hb', hc'⟩ := (H'.out.below K (Nat.le_refl _)).cell hlt
      have hp := mntCs_at l (i := k) (by rw [HQ.out]; exact hlt)
      have q0 := (hc 0 (by decide)).trans hp.1
      have q1 := (hc 1 (by decide)).trans hp.2
      have r0 := (hc' 0 (by decide)).trans hp.1
      have r1 := (hc' 1 (by decide)).trans hp.2
      rw [Nat.add_zero] at q0 r0
      clear hc hc' hp
      generalize mntA l k = r at *
      obtain ⟨x, y⟩ := r
      dsimp only at q0 q1 r0 r1
      have HBB := Lib.hid hb
      have HBB' := Lib.hid hb'
      clear hb hb'
      have S0 : (wr.cell? ⟨b, off + k * 2, none⟩ = some (.bool x) ∧ wr.cell? ⟨b, off + k * 2 + 1, none⟩ = some (.int .i64 y)) ∧ (wr.cell? ⟨b', off' + k * 2, none⟩ = some (.bool x) ∧ wr.cell? ⟨b', off' + k * 2 + 1, none⟩ = some (.int .i64 y)) ∧ Below w.heap.size w wr := ⟨⟨q0, q1⟩, ⟨r0, r1⟩, K⟩
      clear q0 q1 r0 r1
      go_wp2_with fail
      go_region_held3 (fun w' => (w'.cell? ⟨b, off + k * 2, none⟩ = some (.bool x) ∧ w'.cell? ⟨b, off + k * 2 + 1, none⟩ = some (.int .i64 y)) ∧ (w'.cell? ⟨b', off' + k * 2, none⟩ = some (.bool x) ∧ w'.cell? ⟨b', off' + k * 2 + 1, none⟩ = some (.int .i64 y)) ∧ Below w.heap.size w w')
        (first | exact S0 | exact S1 | exact ⟨S0.1, S0.2.1, S0.2.2.drew⟩)
        (first
          | (go_at_call 105
             refine (eqMountAt_same _ _ _).mono ?_
             rintro e w2 ⟨rfl, hb2⟩
             have L2 : wr.heap.size ≤ w2.heap.size := hb2.size
             have hs : w.heap.size ≤ wr.heap.size := K.size
             have S1 : (w2.cell? ⟨b, off + k * 2, none⟩ = some (.bool x) ∧ w2.cell? ⟨b, off + k * 2 + 1, none⟩ = some (.int .i64 y)) ∧ (w2.cell? ⟨b', off' + k * 2, none⟩ = some (.bool x) ∧ w2.cell? ⟨b', off' + k * 2 + 1, none⟩ = some (.int .i64 y)) ∧ Below w.heap.size w w2 :=
               ⟨⟨(hb2.cell (p := ⟨b, off + k * 2, none⟩) (Nat.lt_of_lt_of_le HBB.out hs)).trans S0.1.1, (hb2.cell (p := ⟨b, off + k * 2 + 1, none⟩) (Nat.lt_of_lt_of_le HBB.out hs)).trans S0.1.2⟩, ⟨(hb2.cell (p := ⟨b', off' + k * 2, none⟩) (Nat.lt_of_lt_of_le HBB'.out hs)).trans S0.2.1.1, (hb2.cell (p := ⟨b', off' + k * 2 + 1, none⟩) (Nat.lt_of_lt_of_le HBB'.out hs)).trans S0.2.1.2⟩, K.drew.trans (hb2.mono K.size)⟩))
      have K2 := S1.2.2
      clear S0 S1
      go_wp2
      exact ⟨⟨k + 1, by omega, by go_num, K2⟩, by simp [intOf]; omega⟩
    · obtain rfl : k = n := by omega
      go_wp2
      go_ret
      exact ⟨rfl, K⟩

set_option maxHeartbeats 1000000 in
theorem eqBoolS_same (A A' : Option Addr) (c c' : Nat) (l : List Bool) (w : World) (h : SlV w w.heap.size 1 A l.length (devCs l)) (h' : SlV w w.heap.size 1 A' l.length (devCs l)) (hl : l.length ≤ maxLen) :
    Calls Try.prog 65 #[.slice A l.length c, .slice A' l.length c'] w fun e w' => e = .returned (.bool true) ∧ Below w.heap.size w w' := by
  have H := Lib.hid h
  have H' := Lib.hid h'
  have hl' : l.length ≤ 2 ^ 63 - 1 := by unfold maxLen at hl; omega
  clear hl h h'
  generalize hq : l.length = n at *
  have HQ := Lib.hid hq
  clear hq
  go_enter Try.func65, Try.ntmps65
  go_wp2
  go_loopw [5] (fun i wr => ∃ k : Nat, k ≤ n ∧ i = .int .i64 k ∧ Below w.heap.size w wr) (fun i _ => n - (intOf i).toNat)
  case atStart => exact ⟨0, Nat.zero_le _, rfl, Below.refl _ _⟩
  case round =>
    obtain ⟨k, hk, rfl, K⟩ := hrel
    by_cases hlt : k < n
    · obtain ⟨b, off, rfl, hb, hc⟩ := (H.out.below K (Nat.le_refl _)).cell hlt
      obtain ⟨b', off', rfl, hb', hc'⟩ := (H'.out.below K (Nat.le_refl _)).cell hlt
      have hp := devCs_at l (i := k) (by rw [HQ.out]; exact hlt)
      have q0 := hc 0 (by decide)
      have r0 := hc' 0 (by decide)
      rw [Nat.add_zero, Nat.mul_one, Nat.add_zero, hp] at q0 r0
      clear hc hc' hp
      generalize devA l k = x at *
      go_wp2_with fail
      go_quiet (fail)
      go_wp2
      exact ⟨⟨k + 1, by omega, by go_num, below_drewN K _⟩, by simp [intOf]; omega⟩
    · obtain rfl : k = n := by omega
      go_wp2
      go_ret
      exact ⟨rfl, K⟩

set_option maxHeartbeats 1000000 in
theorem eqInts_same (A A' : Option Addr) (c c' : Nat) (l : List Int) (w : World) (h : SlV w w.heap.size 1 A l.length (lkCs l)) (h' : SlV w w.heap.size 1 A' l.length (lkCs l)) (hl : l.length ≤ maxLen) :
    Calls Try.prog 60 #[.slice A l.length c, .slice A' l.length c'] w fun e w' => e = .returned (.bool true) ∧ Below w.heap.size w w' := by
  have H := Lib.hid h
  have H' := Lib.hid h'
  have hl' : l.length ≤ 2 ^ 63 - 1 := by unfold maxLen at hl; omega
  clear hl h h'
  generalize hq : l.length = n at *
  have HQ := Lib.hid hq
  clear hq
  go_enter Try.func60, Try.ntmps60
  go_wp2
  go_loopw [5] (fun i wr => ∃ k : Nat, k ≤ n ∧ i = .int .i64 k ∧ Below w.heap.size w wr) (fun i _ => n - (intOf i).toNat)
  case atStart => exact ⟨0, Nat.zero_le _, rfl, Below.refl _ _⟩
  case round =>
    obtain ⟨k, hk, rfl, K⟩ := hrel
    by_cases hlt : k < n
    · obtain ⟨b, off, rfl, hb, hc⟩ := (H.out.below K (Nat.le_refl _)).cell hlt
      obtain ⟨b', off', rfl, hb', hc'⟩ := (H'.out.below K (Nat.le_refl _)).cell hlt
      have hp := lkCs_at l (i := k) (by rw [HQ.out]; exact hlt)
      have q0 := hc 0 (by decide)
      have r0 := hc' 0 (by decide)
      rw [Nat.add_zero, Nat.mul_one, Nat.add_zero, hp] at q0 r0
      clear hc hc' hp
      generalize lkA l k = x at *
      go_wp2_with fail
      go_quiet (fail)
      go_wp2
      exact ⟨⟨k + 1, by omega, by go_num, below_drewN K _⟩, by simp [intOf]; omega⟩
    · obtain rfl : k = n := by omega
      go_wp2
      go_ret
      exact ⟨rfl, K⟩
end Go.Proofs.Ytdphpjnecjofeaa
/- Ud -/
set_option linter.unusedVariables false
namespace Go.Proofs.Ytdphpjnecjofeaa
open Go.RowKit

theorem szPodAtS_any (A : Option Addr) (n c : Nat) (left : Int) (w : World) (hn : n ≤ maxLen) (h0 : 0 ≤ left) (h1 : left ≤ 1048576) :
    Calls Try.prog 45 #[.slice A n c, .int .i64 left] w fun e w' => e = .returned (.int .i64 (szI left n)) ∧ w = w' := by
  unfold maxLen at hn
  go_enter Try.func45, Try.ntmps45
  go_wp2
  · go_ret
    exact ⟨by rw [szI_neg (by omega)]; rfl, rfl⟩
  · go_ret
    exact ⟨by rw [szI_pos (by omega)]; rfl, rfl⟩
theorem szMountAtS_any (A : Option Addr) (n c : Nat) (left : Int) (w : World) (hn : n ≤ maxLen) (h0 : 0 ≤ left) (h1 : left ≤ 1048576) :
    Calls Try.prog 46 #[.slice A n c, .int .i64 left] w fun e w' => e = .returned (.int .i64 (szI left n)) ∧ w = w' := by
  unfold maxLen at hn
  go_enter Try.func46, Try.ntmps46
  go_wp2
  · go_ret
    exact ⟨by rw [szI_neg (by omega)]; rfl, rfl⟩
  · go_ret
    exact ⟨by rw [szI_pos (by omega)]; rfl, rfl⟩
theorem szBoolS_any (A : Option Addr) (n c : Nat) (left : Int) (w : World) (hn : n ≤ maxLen) (h0 : 0 ≤ left) (h1 : left ≤ 1048576) :
    Calls Try.prog 47 #[.slice A n c, .int .i64 left] w fun e w' => e = .returned (.int .i64 (szI left n)) ∧ w = w' := by
  unfold maxLen at hn
  go_enter Try.func47, Try.ntmps47
  go_wp2
  · go_ret
    exact ⟨by rw [szI_neg (by omega)]; rfl, rfl⟩
  · go_ret
    exact ⟨by rw [szI_pos (by omega)]; rfl, rfl⟩

/-- What is left behind a state. -/
def szS (left : Int) (s : StD) : Int := if (s.pods.length + s.mnts.length + s.devs.length + s.lks.length : Nat) ≤ left then left - (s.pods.length + s.mnts.length + s.devs.length + s.lks.length : Nat) else -1
set_option maxHeartbeats 2000000 in
theorem szState_any (v : Value) (s : StD) (left : Int) (w : World) (h : IsSt w w.heap.size v s) (hl0 : 0 ≤ left) (hl1 : left ≤ 1048576) :
    Calls Try.prog 13 #[v, .int .i64 left] w fun e w' => e = .returned (.int .i64 (szS left s)) ∧ Below w.heap.size w w' := by
  obtain ⟨⟨A0, A1, A2, A3, c0, c1, c2, c3, rfl, -, -, -, -⟩, b0, b1, b2, b3⟩ := h
  obtain ⟨ph, co, ck, bo, ba, lb, l0, l1, l2, l3, gd, pr⟩ := s
  dsimp only at *
  have hp : (l0.length + l1.length + l2.length + l3.length : Nat) ≤ left → szS left ⟨ph, co, ck, bo, ba, lb, l0, l1, l2, l3, gd, pr⟩ = left - (l0.length + l1.length + l2.length + l3.length : Nat) := fun h => if_pos h
  have hm : ¬ (l0.length + l1.length + l2.length + l3.length : Nat) ≤ left → szS left ⟨ph, co, ck, bo, ba, lb, l0, l1, l2, l3, gd, pr⟩ = -1 := fun h => if_neg h
  generalize szS left ⟨ph, co, ck, bo, ba, lb, l0, l1, l2, l3, gd, pr⟩ = z at *
  have HP := Lib.hid hp
  have HM := Lib.hid hm
  clear hp hm
  generalize l0.length = n0 at *
  generalize l1.length = n1 at *
  generalize l2.length = n2 at *
  generalize l3.length = n3 at *
  go_enter Try.func13, Try.ntmps13
  go_wp2_with fail
  refine (szPodAtS_any _ _ _ _ _ b0 (by omega) (by omega)).mono ?_
  rintro e w2 ⟨rfl, rfl⟩
  by_cases h0 : (n0 : Int) ≤ left
  · rw [szI_pos h0]
    go_wp2_with fail
    refine (szMountAtS_any _ _ _ _ _ b1 (by omega) (by omega)).mono ?_
    rintro e w2 ⟨rfl, rfl⟩
    by_cases h1 : (n1 : Int) ≤ left - n0
    · rw [szI_pos h1]
      go_wp2_with fail
      refine (szBoolS_any _ _ _ _ _ b2 (by omega) (by omega)).mono ?_
      rintro e w2 ⟨rfl, rfl⟩
      by_cases h2 : (n2 : Int) ≤ left - n0 - n1
      · rw [szI_pos h2]
        go_wp2_with fail
        refine (szInt64S_any _ _ _ _ _ b3 (by omega) (by omega)).mono ?_
        rintro e w2 ⟨rfl, rfl⟩
        by_cases h3 : (n3 : Int) ≤ left - n0 - n1 - n2
        · rw [szI_pos h3]
          go_wp2_with fail
          go_ret
          exact ⟨ret_int (by rw [HP.out (by omega)]; push_cast; omega), (Below.refl _ _).alloc (Nat.le_refl _) _⟩
        · rw [szI_neg h3]
          go_wp2
          go_ret
          exact ⟨ret_int (by rw [HM.out (by omega)]), (Below.refl _ _).alloc (Nat.le_refl _) _⟩
      · rw [szI_neg h2]
        go_wp2
        go_ret
        exact ⟨ret_int (by rw [HM.out (by omega)]), (Below.refl _ _).alloc (Nat.le_refl _) _⟩
    · rw [szI_neg h1]
      go_wp2
      go_ret
      exact ⟨ret_int (by rw [HM.out (by omega)]), (Below.refl _ _).alloc (Nat.le_refl _) _⟩
  · rw [szI_neg h0]
    go_wp2
    go_ret
    exact ⟨ret_int (by rw [HM.out (by omega)]), (Below.refl _ _).alloc (Nat.le_refl _) _⟩

/-- A state of new memory, all lists in blocks of their own. -/
structure NewSt (w w' : World) (s : StD) (g0 g1 g2 g3 : Nat) : Prop where
  l0 : w.heap.size ≤ g0
  l1 : g0 < g1
  l2 : g1 < g2
  l3 : g2 < g3
  l4 : g3 < w'.heap.size
  R0 : RowV w' g0 (podCs s.pods)
  R1 : RowV w' g1 (mntCs s.mnts)
  R2 : RowV w' g2 (devCs s.devs)
  R3 : RowV w' g3 (lkCs s.lks)
abbrev newStV (s : StD) (g0 g1 g2 g3 : Nat) : Value := .agg (stC (some ⟨g0, 0, none⟩) (some ⟨g1, 0, none⟩) (some ⟨g2, 0, none⟩) (some ⟨g3, 0, none⟩) s.pods.length s.pods.length s.mnts.length s.mnts.length s.devs.length s.devs.length s.lks.length s.lks.length s.ph s.co s.ck s.bo s.ba s.lb s.gd s.pr)
def MadeSt (w : World) (s : StD) (e : Ending) (w' : World) : Prop :=
  ∃ g0 g1 g2 g3, e = .returned (newStV s g0 g1 g2 g3) ∧ NewSt w w' s g0 g1 g2 g3 ∧ Below w.heap.size w w'
/-- How many cells a state's lists are at most. -/
structure StFits (s : StD) (m : Nat) : Prop where
  f0 : s.pods.length ≤ m
  f1 : s.mnts.length ≤ m
  f2 : s.devs.length ≤ m
  f3 : s.lks.length ≤ m
theorem NewSt.is {w w' : World} {s : StD} {g0 g1 g2 g3 : Nat} (h : NewSt w w' s g0 g1 g2 g3) (hf : StFits s 1048576) : IsSt w' w'.heap.size (newStV s g0 g1 g2 g3) s := by
  obtain ⟨l0, l1, l2, l3, l4, R0, R1, R2, R3⟩ := h
  obtain ⟨f0, f1, f2, f3⟩ := hf
  have hm : 1048576 ≤ maxLen := by unfold maxLen; decide
  exact ⟨⟨_, _, _, _, _, _, _, _, rfl, R0.slv (podCs_len _) (by omega), R1.slv (mntCs_len _) (by omega), R2.slv (devCs_len _) (by omega), R3.slv (lkCs_len _) (by omega)⟩, by omega, by omega, by omega, by omega⟩

set_option maxHeartbeats 4000000 in
theorem toState_any (v : Value) (s : StD) (w : World) (h : IsSt w w.heap.size v s) (hf : StFits s 1048576) :
    Calls Try.prog 16 #[v] w (MadeSt w s) := by
  obtain ⟨⟨A0, A1, A2, A3, c0, c1, c2, c3, rfl, s0, s1, s2, s3⟩, -, -, -, -⟩ := h
  obtain ⟨h0, h1, h2, h3⟩ := hf
  obtain ⟨ph, co, ck, bo, ba, lb, l0, l1, l2, l3, gd, pr⟩ := s
  dsimp only at *
  have S0 := Lib.hid s0
  have S1 := Lib.hid s1
  have S2 := Lib.hid s2
  have S3 := Lib.hid s3
  have B0 := Lib.hid h0
  have B1 := Lib.hid h1
  have B2 := Lib.hid h2
  have B3 := Lib.hid h3
  clear s0 s1 s2 s3 h0 h1 h2 h3
  go_enter Try.func16, Try.ntmps16
  go_wp2_with fail
  have T1 := TP.start w (stC A0 A1 A2 A3 l0.length c0 l1.length c1 l2.length c2 l3.length c3 ph co ck bo ba lb gd pr) (stC none none none none 0 0 0 0 0 0 0 0 0 false 0 0 0 0 0 0) (stC none none none none 0 0 0 0 0 0 0 0 ph co ck bo ba lb 0 0) 32 46 46
  refine (toPodAtS_any _ _ l0 _ ((S0.out.below T1.A.K (Nat.le_refl _)).more T1.A.K.size) B0.out).mono ?_
  rintro e w2 ⟨g0, rfl, hg0, hz0, R0, hb2⟩
  have T2 := T1.step hb2
  have m0 : w.heap.size + 1 + 1 < g0 := Nat.lt_of_lt_of_le T1.O.z hg0
  clear hb2 hg0 T1
  have hC := T2.A.C
  have hD := T2.O.C
  have hF := T2.O.F
  go_wp2_with fail
  have T1 := T2.set (i := 6) (by simp) (.slice (some ⟨g0, 0, none⟩) l0.length l0.length)
  replace R0 := R0.far (p := ⟨w.heap.size + 1 + 1, 6, none⟩) (by simp; omega) (.slice (some ⟨g0, 0, none⟩) l0.length l0.length)
  refine (toMountAtS_any _ _ l1 _ ((S1.out.below T1.A.K (Nat.le_refl _)).more T1.A.K.size) B1.out).mono ?_
  rintro e w3 ⟨g1, rfl, hg1, hz1, R1, hb2⟩
  clear hC hD hF T2
  have T2 := T1.step hb2
  have m1 : g0 < g1 := by simp [World.setCell] at hg1; omega
  replace R0 := R0.below hb2 (by simp [World.setCell]; omega)
  clear hb2 hg1 T1 hz0
  have hC := T2.A.C
  have hD := T2.O.C
  have hF := T2.O.F
  go_wp2_with fail
  have T1 := T2.set (i := 7) (by simp) (.slice (some ⟨g1, 0, none⟩) l1.length l1.length)
  replace R0 := R0.far (p := ⟨w.heap.size + 1 + 1, 7, none⟩) (by simp; omega) (.slice (some ⟨g1, 0, none⟩) l1.length l1.length)
  replace R1 := R1.far (p := ⟨w.heap.size + 1 + 1, 7, none⟩) (by simp; omega) (.slice (some ⟨g1, 0, none⟩) l1.length l1.length)
  refine (toBoolS_any _ _ l2 _ ((S2.out.below T1.A.K (Nat.le_refl _)).more T1.A.K.size) B2.out).mono ?_
  rintro e w4 ⟨g2, rfl, hg2, hz2, R2, hb2⟩
  clear hC hD hF T2
  have T2 := T1.step hb2
  have m2 : g1 < g2 := by simp [World.setCell] at hg2; omega
  replace R0 := R0.below hb2 (by simp [World.setCell]; omega)
  replace R1 := R1.below hb2 (by simp [World.setCell]; omega)
  clear hb2 hg2 T1 hz1
  have hC := T2.A.C
  have hD := T2.O.C
  have hF := T2.O.F
  go_wp2_with fail
  have T1 := T2.set (i := 8) (by simp) (.slice (some ⟨g2, 0, none⟩) l2.length l2.length)
  replace R0 := R0.far (p := ⟨w.heap.size + 1 + 1, 8, none⟩) (by simp; omega) (.slice (some ⟨g2, 0, none⟩) l2.length l2.length)
  replace R1 := R1.far (p := ⟨w.heap.size + 1 + 1, 8, none⟩) (by simp; omega) (.slice (some ⟨g2, 0, none⟩) l2.length l2.length)
  replace R2 := R2.far (p := ⟨w.heap.size + 1 + 1, 8, none⟩) (by simp; omega) (.slice (some ⟨g2, 0, none⟩) l2.length l2.length)
  refine (toInts_any _ _ l3 _ ((S3.out.below T1.A.K (Nat.le_refl _)).more T1.A.K.size) B3.out).mono ?_
  rintro e w5 ⟨g3, rfl, hg3, hz3, R3, hb2⟩
  clear hC hD hF T2
  have T2 := T1.step hb2
  have m3 : g2 < g3 := by simp [World.setCell] at hg3; omega
  replace R0 := R0.below hb2 (by simp [World.setCell]; omega)
  replace R1 := R1.below hb2 (by simp [World.setCell]; omega)
  replace R2 := R2.below hb2 (by simp [World.setCell]; omega)
  clear hb2 hg3 T1 hz2
  have T2 : TP w w5 (stC A0 A1 A2 A3 l0.length c0 l1.length c1 l2.length c2 l3.length c3 ph co ck bo ba lb gd pr) (stC none none none none 0 0 0 0 0 0 0 0 0 false 0 0 0 0 0 0) (stC (some ⟨g0, 0, none⟩) (some ⟨g1, 0, none⟩) (some ⟨g2, 0, none⟩) none l0.length l0.length l1.length l1.length l2.length l2.length 0 0 ph co ck bo ba lb 0 0) := T2
  have hC := T2.A.C
  have hD := T2.O.C
  have hF := T2.O.F
  have hE := T2.Z.C
  have hG := T2.Z.F
  go_wp2_with fail
  refine bodyPost_ret (v := newStV ⟨ph, co, ck, bo, ba, lb, l0, l1, l2, l3, gd, pr⟩ g0 g1 g2 g3) ?_ rfl ⟨g0, g1, g2, g3, rfl, ⟨by omega, m1, m2, m3, by simp [World.setCell]; exact hz3, ?_, ?_, ?_, ?_⟩, ?_⟩
  · simp [results, Try.results16, go_sem, hE]
  · iterate 15 (refine RowV.far ?_ (by simp; omega) _)
    exact R0
  · iterate 15 (refine RowV.far ?_ (by simp; omega) _)
    exact R1
  · iterate 15 (refine RowV.far ?_ (by simp; omega) _)
    exact R2
  · iterate 15 (refine RowV.far ?_ (by simp; omega) _)
    exact R3
  · iterate 15 (refine Below.setCell ?_ (by simp <;> omega) _)
    exact T2.A.K

set_option maxHeartbeats 2000000 in
theorem eqState_same (v v' : Value) (s : StD) (w : World) (h : IsSt w w.heap.size v s) (h' : IsSt w w.heap.size v' s) :
    Calls Try.prog 20 #[v, v'] w fun e w' => e = .returned (.bool true) ∧ Below w.heap.size w w' := by
  obtain ⟨⟨A0, A1, A2, A3, c0, c1, c2, c3, rfl, s0, s1, s2, s3⟩, b0, b1, b2, b3⟩ := h
  obtain ⟨⟨A0', A1', A2', A3', c0', c1', c2', c3', rfl, s0', s1', s2', s3'⟩, -, -, -, -⟩ := h'
  obtain ⟨ph, co, ck, bo, ba, lb, l0, l1, l2, l3, gd, pr⟩ := s
  dsimp only at *
  have S0 := Lib.hid s0
  have S0' := Lib.hid s0'
  have B0 := Lib.hid b0
  have S1 := Lib.hid s1
  have S1' := Lib.hid s1'
  have B1 := Lib.hid b1
  have S2 := Lib.hid s2
  have S2' := Lib.hid s2'
  have B2 := Lib.hid b2
  have S3 := Lib.hid s3
  have S3' := Lib.hid s3'
  have B3 := Lib.hid b3
  clear s0 s1 s2 s3 s0' s1' s2' s3' b0 b1 b2 b3
  go_enter Try.func20, Try.ntmps20
  cases co
  · go_wp2_with fail
    have T1 := Two.start w (stC A0 A1 A2 A3 l0.length c0 l1.length c1 l2.length c2 l3.length c3 ph false ck bo ba lb gd pr) (stC A0' A1' A2' A3' l0.length c0' l1.length c1' l2.length c2' l3.length c3' ph false ck bo ba lb gd pr) 46 46
    refine (eqPodAtS_same _ _ _ _ l0 _ ((S0.out.below T1.A.K (Nat.le_refl _)).more T1.A.K.size) ((S0'.out.below T1.A.K (Nat.le_refl _)).more T1.A.K.size) B0.out).mono ?_
    rintro e w2 ⟨rfl, hb⟩
    replace T1 := T1.step hb
    clear hb
    have hC := T1.A.C
    have hD := T1.O.C
    go_wp2_with fail
    clear hC hD
    refine (eqMountAtS_same _ _ _ _ l1 _ ((S1.out.below T1.A.K (Nat.le_refl _)).more T1.A.K.size) ((S1'.out.below T1.A.K (Nat.le_refl _)).more T1.A.K.size) B1.out).mono ?_
    rintro e w3 ⟨rfl, hb⟩
    replace T1 := T1.step hb
    clear hb
    have hC := T1.A.C
    have hD := T1.O.C
    go_wp2_with fail
    clear hC hD
    refine (eqBoolS_same _ _ _ _ l2 _ ((S2.out.below T1.A.K (Nat.le_refl _)).more T1.A.K.size) ((S2'.out.below T1.A.K (Nat.le_refl _)).more T1.A.K.size) B2.out).mono ?_
    rintro e w4 ⟨rfl, hb⟩
    replace T1 := T1.step hb
    clear hb
    have hC := T1.A.C
    have hD := T1.O.C
    go_wp2_with fail
    clear hC hD
    refine (eqInts_same _ _ _ _ l3 _ ((S3.out.below T1.A.K (Nat.le_refl _)).more T1.A.K.size) ((S3'.out.below T1.A.K (Nat.le_refl _)).more T1.A.K.size) B3.out).mono ?_
    rintro e w5 ⟨rfl, hb⟩
    replace T1 := T1.step hb
    clear hb
    have hC := T1.A.C
    have hD := T1.O.C
    go_wp2_with fail
    go_ret
    exact ⟨rfl, T1.A.K⟩
  · go_wp2_with fail
    have T1 := Two.start w (stC A0 A1 A2 A3 l0.length c0 l1.length c1 l2.length c2 l3.length c3 ph true ck bo ba lb gd pr) (stC A0' A1' A2' A3' l0.length c0' l1.length c1' l2.length c2' l3.length c3' ph true ck bo ba lb gd pr) 46 46
    refine (eqPodAtS_same _ _ _ _ l0 _ ((S0.out.below T1.A.K (Nat.le_refl _)).more T1.A.K.size) ((S0'.out.below T1.A.K (Nat.le_refl _)).more T1.A.K.size) B0.out).mono ?_
    rintro e w2 ⟨rfl, hb⟩
    replace T1 := T1.step hb
    clear hb
    have hC := T1.A.C
    have hD := T1.O.C
    go_wp2_with fail
    clear hC hD
    refine (eqMountAtS_same _ _ _ _ l1 _ ((S1.out.below T1.A.K (Nat.le_refl _)).more T1.A.K.size) ((S1'.out.below T1.A.K (Nat.le_refl _)).more T1.A.K.size) B1.out).mono ?_
    rintro e w3 ⟨rfl, hb⟩
    replace T1 := T1.step hb
    clear hb
    have hC := T1.A.C
    have hD := T1.O.C
    go_wp2_with fail
    clear hC hD
    refine (eqBoolS_same _ _ _ _ l2 _ ((S2.out.below T1.A.K (Nat.le_refl _)).more T1.A.K.size) ((S2'.out.below T1.A.K (Nat.le_refl _)).more T1.A.K.size) B2.out).mono ?_
    rintro e w4 ⟨rfl, hb⟩
    replace T1 := T1.step hb
    clear hb
    have hC := T1.A.C
    have hD := T1.O.C
    go_wp2_with fail
    clear hC hD
    refine (eqInts_same _ _ _ _ l3 _ ((S3.out.below T1.A.K (Nat.le_refl _)).more T1.A.K.size) ((S3'.out.below T1.A.K (Nat.le_refl _)).more T1.A.K.size) B3.out).mono ?_
    rintro e w5 ⟨rfl, hb⟩
    replace T1 := T1.step hb
    clear hb
    have hC := T1.A.C
    have hD := T1.O.C
    go_wp2_with fail
    go_ret
    exact ⟨rfl, T1.A.K⟩
end Go.Proofs.Ytdphpjnecjofeaa
/- Uh -/
set_option linter.unusedVariables false
namespace Go.Proofs.Ytdphpjnecjofeaa
open Go.RowKit

theorem field_any_ (x : Int) (w : World) :
    Calls Try.prog 80 #[.int .i64 x] w fun e w' => e = .returned (.bool (inB x 0 1000000)) ∧ w = w' := by
  go_enter Try.func80, Try.ntmps80
  go_wp2_with (go_at_call 79; refine (in_any _ _ _ _).mono ?_; rintro e w' ⟨rfl, rfl⟩)
  go_ret
  exact ⟨rfl, rfl⟩
def podOkB (q : Int × Int) : Bool := inB q.1 0 6 && inB q.2 0 1000000
def mntOkB (q : Bool × Int) : Bool := inB q.2 0 5 && (q.1 || q.2 == 0)
def lkOkB (l : List Int) (i : Nat) : Bool := inB (lkA l i) 0 7 && (decide (i = 0) || decide (lkA l (i - 1) < lkA l i))
def partsB (d : PlanD) (s : StD) : Bool :=
  decide (s.pods.length = d.n0) && decide (s.mnts.length = d.n2) && decide (s.devs.length = d.n3) &&
  allB s.pods.length (fun i => podOkB (podA s.pods i)) && allB s.mnts.length (fun i => mntOkB (mntA s.mnts i)) && allB s.lks.length (lkOkB s.lks)
theorem all_getD {α : Type} (d : α) {l : List α} {f : α → Bool} : allB l.length (fun i => f (l.getD i d)) = l.all f := by
  rw [Bool.eq_iff_iff, allB_true, List.all_eq_true]
  constructor
  · intro h x hx
    obtain ⟨i, hi, rfl⟩ := List.mem_iff_getElem.1 hx
    have := h i hi
    simpa [List.getD, hi] using this
  · intro h i hi
    have : l.getD i d = l[i] := by simp [List.getD, hi]
    rw [this]
    exact h _ (List.getElem_mem hi)
theorem rise_iff {l : List Int} : (∀ i, i < l.length → i = 0 ∨ lkA l (i - 1) < lkA l i) ↔ l.Pairwise (· < ·) := by
  rw [List.pairwise_iff_getElem]
  constructor
  · intro h i j hi hj hij
    have : ∀ m, (hm : i + m + 1 < l.length) → l[i]'(by omega) < l[i + m + 1] := fun m => by
      induction m with
      | zero =>
        intro hm
        have := (h (i + 1) (by omega)).resolve_left (by omega)
        rw [Nat.add_sub_cancel] at this
        simpa [lkA, List.getD, show i < l.length by omega, show i + 1 < l.length by omega] using this
      | succ m ih =>
        intro hm
        have h1 := ih (by omega)
        have := (h (i + m + 1 + 1) (by omega)).resolve_left (by omega)
        rw [Nat.add_sub_cancel] at this
        have h2 : l[i + m + 1]'(by omega) < l[i + m + 1 + 1]'(by omega) := by
          simpa [lkA, List.getD, show i + m + 1 < l.length by omega, show i + m + 1 + 1 < l.length by omega] using this
        exact Int.lt_trans h1 h2
    have hm := this (j - i - 1) (by omega)
    have e : i + (j - i - 1) + 1 = j := by omega
    simpa [e] using hm
  · intro h i hi
    by_cases h0 : i = 0
    · exact .inl h0
    · refine .inr ?_
      have := h (i - 1) i (by omega) hi (by omega)
      simpa [lkA, List.getD, hi, show i - 1 < l.length by omega] using this
theorem stOkB_parts (d : PlanD) (s : StD) : stOkB d s = (planOkB d && inB s.ph 0 8 && (s.co == decide (s.ph ≠ 0)) && inB s.ck 0 1000000 && inB s.bo 0 1000000 && inB s.ba 0 6 && inB s.lb 0 1000000 && inB s.gd 0 s.pr && decide (s.pr ≤ d.t) && partsB d s) := by
  have e1 : s.pods.all (fun q => inB q.1 0 6 && inB q.2 0 1000000) = allB s.pods.length (fun i => podOkB (podA s.pods i)) := (all_getD (0, 0) (f := podOkB)).symm
  have e2 : s.mnts.all (fun q => inB q.2 0 5 && (q.1 || q.2 == 0)) = allB s.mnts.length (fun i => mntOkB (mntA s.mnts i)) := (all_getD (false, 0) (f := mntOkB)).symm
  have e3 : (s.lks.all (fun x => inB x 0 7) && decide (s.lks.Pairwise (· < ·))) = allB s.lks.length (lkOkB s.lks) := by
    rw [Bool.eq_iff_iff, Bool.and_eq_true, decide_eq_true_eq, ← all_getD 0, allB_true, allB_true, ← rise_iff]
    simp only [lkOkB, lkA, Bool.and_eq_true, Bool.or_eq_true, decide_eq_true_eq]
    constructor
    · exact fun h i hi => ⟨h.1 i hi, (h.2 i hi).imp id (fun hh => decide_eq_true hh)⟩
    · exact fun h => ⟨fun i hi => (h i hi).1, fun i hi => ((h i hi).2).imp id (fun hh => of_decide_eq_true hh)⟩
  unfold stOkB partsB
  rw [e1, e2, ← e3]
  simp only [Bool.and_assoc]

set_option maxHeartbeats 4000000 in
theorem l5Parts_any (pv sv : Value) (d : PlanD) (s : StD) (w : World) (hp : IsPlan w w.heap.size pv d) (h : IsSt w w.heap.size sv s) :
    Calls Try.prog 81 #[pv, sv] w fun e w' => e = .returned (.bool (partsB d s)) ∧ Below w.heap.size w w' := by
  obtain ⟨⟨P0, P1, P2, P3, k0, k1, k2, k3, rfl, -, -, -, -⟩, hb0, hb1, hb2, hb3⟩ := hp
  obtain ⟨⟨A0, A1, A2, A3, c0, c1, c2, c3, rfl, s0, s1, s2, s3⟩, b0, b1, b2, b3⟩ := h
  obtain ⟨n0, n1, n2, n3, x0, x1, x2, x3, l, p, t⟩ := d
  obtain ⟨ph, co, ck, bo, ba, lb, l0, l1, l2, l3, gd, pr⟩ := s
  dsimp only at *
  unfold maxLen at hb0 hb1 hb2 hb3 b0 b1 b2 b3
  have S0 := Lib.hid s0
  have S1 := Lib.hid s1
  have S3 := Lib.hid s3
  clear s0 s1 s2 s3
  have hpt : partsB ⟨n0, n1, n2, n3, x0, x1, x2, x3, l, p, t⟩ ⟨ph, co, ck, bo, ba, lb, l0, l1, l2, l3, gd, pr⟩ = (decide (l0.length = n0) && decide (l1.length = n2) && decide (l2.length = n3) &&
    allB l0.length (fun i => podOkB (podA l0 i)) && allB l1.length (fun i => mntOkB (mntA l1 i)) && allB l3.length (lkOkB l3)) := rfl
  generalize partsB ⟨n0, n1, n2, n3, x0, x1, x2, x3, l, p, t⟩ ⟨ph, co, ck, bo, ba, lb, l0, l1, l2, l3, gd, pr⟩ = ans at *
  have HANS := Lib.hid hpt
  clear hpt
  generalize hq0 : l0.length = m0 at *
  generalize hq1 : l1.length = m1 at *
  generalize hq2 : l2.length = m2 at *
  generalize hq3 : l3.length = m3 at *
  have HQ0 := Lib.hid hq0
  have HQ1 := Lib.hid hq1
  have HQ3 := Lib.hid hq3
  clear hq0 hq1 hq2 hq3
  have T0 := Two.start w (planC P0 P1 P2 P3 n0 k0 n1 k1 n2 k2 n3 k3 l p t) (stC A0 A1 A2 A3 m0 c0 m1 c1 m2 c2 m3 c3 ph co ck bo ba lb gd pr) 41 46
  go_enter Try.func81, Try.ntmps81
  by_cases e0 : m0 = n0
  · by_cases e1 : m1 = n2
    · by_cases e2 : m2 = n3
      · subst e0 e1 e2
        go_wp2_with fail
        go_loopw [5] (fun i wr => ∃ k : Nat, k ≤ m0 ∧ i = .int .i64 k ∧ Hid (∀ j, j < k → podOkB (podA l0 j) = true) ∧ Two w wr (planC P0 P1 P2 P3 m0 k0 n1 k1 m1 k2 m2 k3 l p t) (stC A0 A1 A2 A3 m0 c0 m1 c1 m2 c2 m3 c3 ph co ck bo ba lb gd pr)) (fun i _ => m0 - (intOf i).toNat)
        case atStart => exact ⟨0, Nat.zero_le _, rfl, Lib.hid (fun j hj => absurd hj (by omega)), T0⟩
        case round =>
          clear T0
          obtain ⟨k, hk, rfl, HA, X⟩ := hrel
          have hC := X.A.C
          have hD := X.O.C
          by_cases hlt : k < m0
          · obtain ⟨b, off, rfl, hb, hc⟩ := ((S0.out.below X.A.K (Nat.le_refl _)).more X.A.K.size).cell hlt
            have hp := podCs_at l0 (i := k) (by rw [HQ0.out]; exact hlt)
            have q0 := (hc 0 (by decide)).trans hp.1
            have q1 := (hc 1 (by decide)).trans hp.2
            rw [Nat.add_zero] at q0
            have HOK : Hid (podOkB (podA l0 k) = (inB (podA l0 k).1 0 6 && inB (podA l0 k).2 0 1000000)) := Lib.hid rfl
            clear hc hp
            generalize hr : podA l0 k = r at *
            have HRR := Lib.hid hr
            clear hr
            obtain ⟨x, y⟩ := r
            dsimp only at q0 q1 HOK
            cases h1 : inB x 0 6
            · have H1 := Lib.hid h1
              clear h1
              go_wp2_with (go_at_call 79; refine (in_any _ _ _ _).mono ?_; rintro e w' ⟨rfl, rfl⟩; rw [H1.out])
              go_ret
              exact ⟨ret_bool (by rw [HANS.out, allB_false hlt (by rw [HRR.out, HOK.out, H1.out]; rfl)]; simp), X.A.K⟩
            · have H1 := Lib.hid h1
              clear h1
              cases h2 : inB y 0 1000000
              · have H2 := Lib.hid h2
                clear h2
                go_wp2_with (first
                  | (go_at_call 79; refine (in_any _ _ _ _).mono ?_; rintro e w' ⟨rfl, rfl⟩; rw [H1.out])
                  | (go_at_call 80; refine (field_any_ _ _).mono ?_; rintro e w' ⟨rfl, rfl⟩; rw [H2.out]))
                go_ret
                exact ⟨ret_bool (by rw [HANS.out, allB_false hlt (by rw [HRR.out, HOK.out, H1.out, H2.out]; rfl)]; simp), X.A.K⟩
              · have H2 := Lib.hid h2
                clear h2
                go_wp2_with (first
                  | (go_at_call 79; refine (in_any _ _ _ _).mono ?_; rintro e w' ⟨rfl, rfl⟩; rw [H1.out])
                  | (go_at_call 80; refine (field_any_ _ _).mono ?_; rintro e w' ⟨rfl, rfl⟩; rw [H2.out]))
                exact ⟨⟨k + 1, by omega, by go_num, Lib.hid (step_all HA.out (by rw [HRR.out, HOK.out, H1.out, H2.out]; rfl)), X⟩, by simp [intOf]; omega⟩
          · obtain rfl : k = m0 := by omega
            have HB0 := Lib.hid (allB_true.2 HA.out)
            clear HA hlt hk
            go_wp2_with fail
            go_loopw [6] (fun i wr => ∃ k' : Nat, k' ≤ m1 ∧ i = .int .i64 k' ∧ Hid (∀ j, j < k' → mntOkB (mntA l1 j) = true) ∧ Two w wr (planC P0 P1 P2 P3 k k0 n1 k1 m1 k2 m2 k3 l p t) (stC A0 A1 A2 A3 k c0 m1 c1 m2 c2 m3 c3 ph co ck bo ba lb gd pr)) (fun i _ => m1 - (intOf i).toNat)
            case atStart => exact ⟨0, Nat.zero_le _, rfl, Lib.hid (fun j hj => absurd hj (by omega)), X⟩
            case round =>
              clear X hC hD
              obtain ⟨k', hk', rfl, HA, X⟩ := hrel
              have hC := X.A.C
              have hD := X.O.C
              by_cases hlt : k' < m1
              · obtain ⟨b, off, rfl, hb, hc⟩ := ((S1.out.below X.A.K (Nat.le_refl _)).more X.A.K.size).cell hlt
                have hp := mntCs_at l1 (i := k') (by rw [HQ1.out]; exact hlt)
                have q0 := (hc 0 (by decide)).trans hp.1
                have q1 := (hc 1 (by decide)).trans hp.2
                rw [Nat.add_zero] at q0
                have HOK : Hid (mntOkB (mntA l1 k') = (inB (mntA l1 k').2 0 5 && ((mntA l1 k').1 || (mntA l1 k').2 == 0))) := Lib.hid rfl
                clear hc hp
                generalize hr : mntA l1 k' = r at *
                have HRR := Lib.hid hr
                clear hr
                obtain ⟨x, y⟩ := r
                dsimp only at q0 q1 HOK
                cases h1 : inB y 0 5
                · have H1 := Lib.hid h1
                  clear h1
                  go_wp2_with (go_at_call 79; refine (in_any _ _ _ _).mono ?_; rintro e w' ⟨rfl, rfl⟩; rw [H1.out])
                  go_ret
                  exact ⟨ret_bool (by rw [HANS.out, allB_false (f := fun i => mntOkB (mntA l1 i)) hlt (by rw [HRR.out, HOK.out, H1.out]; rfl)]; simp), X.A.K⟩
                · have H1 := Lib.hid h1
                  clear h1
                  cases x
                  · by_cases hy : y = 0
                    · subst hy
                      go_wp2_with (go_at_call 79; refine (in_any _ _ _ _).mono ?_; rintro e w' ⟨rfl, rfl⟩; rw [H1.out])
                      exact ⟨⟨k' + 1, by omega, by go_num, Lib.hid (step_all (f := fun i => mntOkB (mntA l1 i)) HA.out (by rw [HRR.out, HOK.out, H1.out]; rfl)), X⟩, by simp [intOf]; omega⟩
                    · have hy' : ¬ y = 0 := hy
                      go_wp2_with (go_at_call 79; refine (in_any _ _ _ _).mono ?_; rintro e w' ⟨rfl, rfl⟩; rw [H1.out])
                      go_ret
                      exact ⟨ret_bool (by rw [HANS.out, allB_false (f := fun i => mntOkB (mntA l1 i)) hlt (by rw [HRR.out, HOK.out, H1.out]; simp [hy])]; simp), X.A.K⟩
                  · go_wp2_with (go_at_call 79; refine (in_any _ _ _ _).mono ?_; rintro e w' ⟨rfl, rfl⟩; rw [H1.out])
                    exact ⟨⟨k' + 1, by omega, by go_num, Lib.hid (step_all (f := fun i => mntOkB (mntA l1 i)) HA.out (by rw [HRR.out, HOK.out, H1.out]; rfl)), X⟩, by simp [intOf]; omega⟩
              · obtain rfl : k' = m1 := by omega
                have HB1 := Lib.hid (allB_true.2 HA.out)
                clear HA hlt hk'
                go_wp2_with fail
                go_loopw [7] (fun i wr => ∃ i' : Nat, i' ≤ m3 ∧ i = .int .i64 i' ∧ Hid (∀ j, j < i' → lkOkB l3 j = true) ∧ Two w wr (planC P0 P1 P2 P3 k k0 n1 k1 k' k2 m2 k3 l p t) (stC A0 A1 A2 A3 k c0 k' c1 m2 c2 m3 c3 ph co ck bo ba lb gd pr)) (fun i _ => m3 - (intOf i).toNat)
                case atStart => exact ⟨0, Nat.zero_le _, rfl, Lib.hid (fun j hj => absurd hj (by omega)), X⟩
                case round =>
                  clear X hC hD
                  obtain ⟨i', hi', rfl, HA, X⟩ := hrel
                  have hC := X.A.C
                  have hD := X.O.C
                  by_cases hlt : i' < m3
                  · obtain ⟨b, off, rfl, hb, hc⟩ := ((S3.out.below X.A.K (Nat.le_refl _)).more X.A.K.size).cell hlt
                    have q0 := hc 0 (by decide)
                    rw [Nat.add_zero, Nat.mul_one, Nat.add_zero, lkCs_at l3 (i := i') (by rw [HQ3.out]; exact hlt)] at q0
                    have q1 : wr.cell? ⟨b, off + (i' - 1), none⟩ = some (.int .i64 (lkA l3 (i' - 1))) := by
                      obtain ⟨b', off', e, -, hc'⟩ := ((S3.out.below X.A.K (Nat.le_refl _)).more X.A.K.size).cell (i := i' - 1) (by omega)
                      injection e with e
                      injection e with e1 e2 _
                      subst e1 e2
                      have := hc' 0 (by decide)
                      rwa [Nat.add_zero, Nat.mul_one, Nat.add_zero, lkCs_at l3 (i := i' - 1) (by rw [HQ3.out]; omega)] at this
                    have HOK : Hid (lkOkB l3 i' = (inB (lkA l3 i') 0 7 && (decide (i' = 0) || decide (lkA l3 (i' - 1) < lkA l3 i')))) := Lib.hid rfl
                    clear hc
                    generalize hx : lkA l3 i' = x at *
                    generalize hy : lkA l3 (i' - 1) = y at *
                    clear hx hy
                    cases h1 : inB x 0 7
                    · have H1 := Lib.hid h1
                      clear h1
                      go_wp2_with fail
                      go_quiet ((go_at_call 79; exact Calls.quiet_of_same ((in_any _ _ _ _).mono fun e w' h => ⟨h.1.trans (by rw [H1.out]), h.2.symm⟩)))
                      go_wp2
                      go_ret
                      exact ⟨ret_bool (by rw [HANS.out, allB_false (f := lkOkB l3) hlt (by rw [HOK.out, H1.out]; rfl)]; simp), below_drewN X.A.K _⟩
                    · have H1 := Lib.hid h1
                      clear h1
                      by_cases hi0 : i' = 0
                      · subst hi0
                        rw [Nat.add_zero] at q0
                        go_wp2_with fail
                        go_quiet ((go_at_call 79; exact Calls.quiet_of_same ((in_any _ _ _ _).mono fun e w' h => ⟨h.1.trans (by rw [H1.out]), h.2.symm⟩)))
                        go_wp2
                        exact ⟨⟨1, by omega, by go_num, Lib.hid (step_all (f := lkOkB l3) HA.out (by rw [HOK.out, H1.out]; rfl)), ⟨X.A.drewN _, X.O.drewN _⟩⟩, by simp [intOf]; omega⟩
                      · have hpos : (0 : Int) < (i' : Int) := by omega
                        have hposN : 0 < i' := by omega
                        have hposD : decide ((0 : Int) < (i' : Int)) = true := by simp; omega
                        have hposE : decide (0 < i') = true := by simp; omega
                        by_cases hxy : y < x
                        · go_wp2_with fail
                          go_quiet ((go_at_call 79; exact Calls.quiet_of_same ((in_any _ _ _ _).mono fun e w' h => ⟨h.1.trans (by rw [H1.out]), h.2.symm⟩)))
                          have hle : ¬ x ≤ y := by omega
                          go_wp2
                          exact ⟨⟨i' + 1, by omega, by go_num, Lib.hid (step_all (f := lkOkB l3) HA.out (by rw [HOK.out, H1.out]; simp [hxy])), ⟨X.A.drewN _, X.O.drewN _⟩⟩, by simp [intOf]; omega⟩
                        · have hle : x ≤ y := by omega
                          go_wp2_with fail
                          go_quiet ((go_at_call 79; exact Calls.quiet_of_same ((in_any _ _ _ _).mono fun e w' h => ⟨h.1.trans (by rw [H1.out]), h.2.symm⟩)))
                          go_wp2
                          go_ret
                          exact ⟨ret_bool (by rw [HANS.out, allB_false (f := lkOkB l3) hlt (by rw [HOK.out, H1.out]; simp [hi0]; omega)]; simp), below_drewN X.A.K _⟩
                  · obtain rfl : i' = m3 := by omega
                    have HB3 := Lib.hid (allB_true.2 HA.out)
                    clear HA hlt hi'
                    go_wp2_with fail
                    go_ret
                    exact ⟨ret_bool (by rw [HANS.out, HB0.out, HB1.out, HB3.out]; simp), X.A.K⟩
      · go_wp2_with fail
        go_ret
        exact ⟨ret_bool (by rw [HANS.out]; simp [e2]), ((Below.refl _ _).alloc (Nat.le_refl _) _).alloc (by simp) _⟩
    · go_wp2_with fail
      go_ret
      exact ⟨ret_bool (by rw [HANS.out]; simp [e1]), ((Below.refl _ _).alloc (Nat.le_refl _) _).alloc (by simp) _⟩
  · go_wp2_with fail
    go_ret
    exact ⟨ret_bool (by rw [HANS.out]; simp [e0]), T0.A.K⟩

end Go.Proofs.Ytdphpjnecjofeaa
