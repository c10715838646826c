/-
  Marks in a whole state.
-/
import Derived.Test.YtlfppcppjbfieaaGreatDoorUe
set_option linter.unusedVariables false
namespace Go.Proofs.YtlfppcppjbfieaaGreatDoor
open Go.RowKit

theorem RowV.keepsC {S : Nat → Prop} {w w' : World} {g : Nat} {xs : List Value} (h : RowV w g xs) (k : Keeps S w w') (hg : 0 < xs.length → g < w.heap.size) (hn : ¬ S g) : RowV w' g xs := fun j hj => RowV.keeps h k (hg (by omega)) hn j hj
/-- A state whose four lists lie in blocks of their own, all writable. -/
structure Rows4 (w : World) (v : Value) (s : StD) (g0 g1 g2 g3 : Nat) : Prop where
  val : ∃ A0 A1 A2 A3 c0 c1 c2 c3, v = .agg (stC A0 A1 A2 A3 s.pods.length c0 s.mnts.length c1 s.devs.length c2 s.lks.length c3 s.ph s.co s.ck s.bo s.ba s.lb s.gd s.pr) ∧
    (0 < s.pods.length → A0 = some ⟨g0, 0, none⟩) ∧ (0 < s.mnts.length → A1 = some ⟨g1, 0, none⟩) ∧ (0 < s.devs.length → A2 = some ⟨g2, 0, none⟩) ∧ (0 < s.lks.length → A3 = some ⟨g3, 0, none⟩)
  z0 : 0 < s.pods.length → g0 < w.heap.size
  R0 : RowV w g0 (podCs s.pods)
  z1 : 0 < s.mnts.length → g1 < w.heap.size
  R1 : RowV w g1 (mntCs s.mnts)
  z2 : 0 < s.devs.length → g2 < w.heap.size
  R2 : RowV w g2 (devCs s.devs)
  z3 : 0 < s.lks.length → g3 < w.heap.size
  R3 : RowV w g3 (lkCs s.lks)
  d01 : g0 ≠ g1
  d02 : g0 ≠ g2
  d03 : g0 ≠ g3
  d12 : g1 ≠ g2
  d13 : g1 ≠ g3
  d23 : g2 ≠ g3
theorem NewSt.rows {w w' : World} {s : StD} {g0 g1 g2 g3 : Nat} (h : NewSt w w' s g0 g1 g2 g3) : Rows4 w' (newStV s g0 g1 g2 g3) s g0 g1 g2 g3 := by
  obtain ⟨l0, l1, l2, l3, l4, R0, R1, R2, R3⟩ := h
  exact { val := ⟨_, _, _, _, _, _, _, _, rfl, fun _ => rfl, fun _ => rfl, fun _ => rfl, fun _ => rfl⟩, z0 := fun _ => by omega, z1 := fun _ => by omega, z2 := fun _ => by omega, z3 := fun _ => by omega, R0 := R0, R1 := R1, R2 := R2, R3 := R3, d01 := by omega, d02 := by omega, d03 := by omega, d12 := by omega, d13 := by omega, d23 := by omega }
theorem row_type {w : World} {B B' e e' k k' n n' g : Nat} {v v' : Value} {xs xs' : List Value} (h : w.ownsRow B e k v n xs) (h' : w.ownsRow B' e' k' v' n' xs') (hv : v.ownBlock = some g) (hv' : v'.ownBlock = some g) : e = e' := by
  rcases h.2 with ⟨rfl, _⟩ | ⟨g1, c1, cur1, rfl, _, hh1, _⟩
  · simp [Value.ownBlock] at hv
  · rcases h'.2 with ⟨rfl, _⟩ | ⟨g2, c2, cur2, rfl, _, hh2, _⟩
    · simp [Value.ownBlock] at hv'
    · obtain rfl : g1 = g := by simpa [Value.ownBlock] using hv
      obtain rfl : g2 = g1 := by simpa [Value.ownBlock] using hv'
      rw [hh1] at hh2
      injection hh2 with hh2
      injection hh2 with _ h2 _
/-- A row of the call's own, its block named; a number of choice where it has none. -/
theorem row_named {w : World} {B e k n : Nat} {v : Value} {xs : List Value} (h : w.ownsRow B e k v n xs) (hB : B ≤ w.heap.size) (m : Nat) (hm : w.heap.size ≤ m) :
    ∃ A c g, v = .slice A n c ∧ (0 < n → A = some ⟨g, 0, none⟩) ∧ B ≤ g ∧ (0 < n → g < w.heap.size) ∧ RowV w g xs ∧ ((v.ownBlock = some g ∧ g < w.heap.size) ∨ g = m) := by
  obtain ⟨A, c, g, hv, hA, hnc, hb, hg, hR, hS, hx⟩ := open_row h
  by_cases hn : 0 < n
  · refine ⟨A, c, g, hv, hA, hb, hg, hR, .inl ⟨?_, hg hn⟩⟩
    rw [hv, hA hn]
    rfl
  · refine ⟨A, c, m, hv, fun h => absurd h hn, by omega, fun h => absurd h hn, fun j hj => ?_, .inr rfl⟩
    have := h.1
    obtain rfl : n = 0 := by omega
    omega
theorem OwnSt.rows {w : World} {B : Nat} {v : Value} {s : StD} (h : OwnSt w B v s) (hB : B ≤ w.heap.size) : ∃ g0 g1 g2 g3, Rows4 w v s g0 g1 g2 g3 ∧ B ≤ g0 ∧ B ≤ g1 ∧ B ≤ g2 ∧ B ≤ g3 := by
  obtain ⟨v0, v1, v2, v3, rfl, h0, h1, h2, h3⟩ := h.it
  obtain ⟨A0, c0, g0, e0, a0, b0, z0, R0, o0⟩ := row_named h0 hB (w.heap.size + 0) (by omega)
  obtain ⟨A1, c1, g1, e1, a1, b1, z1, R1, o1⟩ := row_named h1 hB (w.heap.size + 1) (by omega)
  obtain ⟨A2, c2, g2, e2, a2, b2, z2, R2, o2⟩ := row_named h2 hB (w.heap.size + 2) (by omega)
  obtain ⟨A3, c3, g3, e3, a3, b3, z3, R3, o3⟩ := row_named h3 hB (w.heap.size + 3) (by omega)
  have d01 : g0 ≠ g1 := fun e => by
    rcases o0 with ⟨p, q⟩ | p
    · rcases o1 with ⟨p', q'⟩ | p'
      · exact absurd (row_type h0 h1 p (by rw [e]; exact p')) (by decide)
      · omega
    · rcases o1 with ⟨p', q'⟩ | p'
      · omega
      · omega
  have d02 : g0 ≠ g2 := fun e => by
    rcases o0 with ⟨p, q⟩ | p
    · rcases o2 with ⟨p', q'⟩ | p'
      · exact absurd (row_type h0 h2 p (by rw [e]; exact p')) (by decide)
      · omega
    · rcases o2 with ⟨p', q'⟩ | p'
      · omega
      · omega
  have d03 : g0 ≠ g3 := fun e => by
    rcases o0 with ⟨p, q⟩ | p
    · rcases o3 with ⟨p', q'⟩ | p'
      · exact absurd (row_type h0 h3 p (by rw [e]; exact p')) (by decide)
      · omega
    · rcases o3 with ⟨p', q'⟩ | p'
      · omega
      · omega
  have d12 : g1 ≠ g2 := fun e => by
    rcases o1 with ⟨p, q⟩ | p
    · rcases o2 with ⟨p', q'⟩ | p'
      · exact absurd (row_type h1 h2 p (by rw [e]; exact p')) (by decide)
      · omega
    · rcases o2 with ⟨p', q'⟩ | p'
      · omega
      · omega
  have d13 : g1 ≠ g3 := fun e => by
    rcases o1 with ⟨p, q⟩ | p
    · rcases o3 with ⟨p', q'⟩ | p'
      · exact absurd (row_type h1 h3 p (by rw [e]; exact p')) (by decide)
      · omega
    · rcases o3 with ⟨p', q'⟩ | p'
      · omega
      · omega
  have d23 : g2 ≠ g3 := fun e => by
    rcases o2 with ⟨p, q⟩ | p
    · rcases o3 with ⟨p', q'⟩ | p'
      · exact absurd (row_type h2 h3 p (by rw [e]; exact p')) (by decide)
      · omega
    · rcases o3 with ⟨p', q'⟩ | p'
      · omega
      · omega
  subst e0 e1 e2 e3
  exact ⟨g0, g1, g2, g3, { val := ⟨A0, A1, A2, A3, c0, c1, c2, c3, rfl, a0, a1, a2, a3⟩, z0 := z0, z1 := z1, z2 := z2, z3 := z3, R0 := R0, R1 := R1, R2 := R2, R3 := R3, d01 := d01, d02 := d02, d03 := d03, d12 := d12, d13 := d13, d23 := d23 }, b0, b1, b2, b3⟩
theorem keep_none {S : Nat → Prop} {w w' : World} (k : Keeps (· = w.heap.size) w w') : Keeps S w w' := ⟨k.os, k.tape, k.output, k.size, fun b hb _ => k.block b hb (by omega)⟩
theorem rowv_nil (w : World) (g : Nat) : RowV w g [] := fun j hj => by simp at hj
theorem markPodAtS_at (A : Option Addr) (n c g : Nat) (k0 : Int) (l : List (Int × Int)) (w : World) (hl : l.length = n) (hA : 0 < n → A = some ⟨g, 0, none⟩) (R : RowV w g (podCs l)) (hn : n ≤ 1048576) (h0 : 0 ≤ k0) (h1 : k0 ≤ 8388608) :
    Calls Tryz.prog 53 #[.slice A n c, .int .i64 k0] w fun e w' => e = .returned (.int .i64 (k0 + 2 * n)) ∧ RowV w' g (podCs (mkPods k0 n)) ∧ Keeps (fun b => b = g ∧ 0 < n) w w' := by
  by_cases h : 0 < n
  · refine (markPodAtS_any A n c g k0 l w hl hA R hn h0 h1).mono fun e w' hh => ⟨hh.1, hh.2.1, hh.2.2.mono fun b hb => ⟨hb, h⟩⟩
  · obtain rfl : n = 0 := by omega
    have e : l = [] := List.eq_nil_of_length_eq_zero hl
    subst e
    refine (markPodAtS_any A 0 c w.heap.size k0 [] w rfl (fun h => absurd h (by omega)) (rowv_nil _ _) hn h0 h1).mono fun e w' hh => ⟨hh.1, rowv_nil _ _, keep_none hh.2.2⟩
theorem markMountAtS_at (A : Option Addr) (n c g : Nat) (k0 : Int) (l : List (Bool × Int)) (w : World) (hl : l.length = n) (hA : 0 < n → A = some ⟨g, 0, none⟩) (R : RowV w g (mntCs l)) (hn : n ≤ 1048576) (h0 : 0 ≤ k0) (h1 : k0 ≤ 8388608) :
    Calls Tryz.prog 54 #[.slice A n c, .int .i64 k0] w fun e w' => e = .returned (.int .i64 (k0 + 2 * n)) ∧ RowV w' g (mntCs (mkMnts k0 n)) ∧ Keeps (fun b => b = g ∧ 0 < n) w w' := by
  by_cases h : 0 < n
  · refine (markMountAtS_any A n c g k0 l w hl hA R hn h0 h1).mono fun e w' hh => ⟨hh.1, hh.2.1, hh.2.2.mono fun b hb => ⟨hb, h⟩⟩
  · obtain rfl : n = 0 := by omega
    have e : l = [] := List.eq_nil_of_length_eq_zero hl
    subst e
    refine (markMountAtS_any A 0 c w.heap.size k0 [] w rfl (fun h => absurd h (by omega)) (rowv_nil _ _) hn h0 h1).mono fun e w' hh => ⟨hh.1, rowv_nil _ _, keep_none hh.2.2⟩
theorem markBoolS_at (A : Option Addr) (n c g : Nat) (k0 : Int) (l : List Bool) (w : World) (hl : l.length = n) (hA : 0 < n → A = some ⟨g, 0, none⟩) (R : RowV w g (devCs l)) (hn : n ≤ 1048576) (h0 : 0 ≤ k0) (h1 : k0 ≤ 8388608) :
    Calls Tryz.prog 55 #[.slice A n c, .int .i64 k0] w fun e w' => e = .returned (.int .i64 (k0 + n)) ∧ RowV w' g (devCs (mkDevs k0 n)) ∧ Keeps (fun b => b = g ∧ 0 < n) w w' := by
  by_cases h : 0 < n
  · refine (markBoolS_any A n c g k0 l w hl hA R hn h0 h1).mono fun e w' hh => ⟨hh.1, hh.2.1, hh.2.2.mono fun b hb => ⟨hb, h⟩⟩
  · obtain rfl : n = 0 := by omega
    have e : l = [] := List.eq_nil_of_length_eq_zero hl
    subst e
    refine (markBoolS_any A 0 c w.heap.size k0 [] w rfl (fun h => absurd h (by omega)) (rowv_nil _ _) hn h0 h1).mono fun e w' hh => ⟨hh.1, rowv_nil _ _, keep_none hh.2.2⟩
theorem markInts_at (A : Option Addr) (n c g : Nat) (k0 : Int) (l : List Int) (w : World) (hl : l.length = n) (hA : 0 < n → A = some ⟨g, 0, none⟩) (R : RowV w g (lkCs l)) (hn : n ≤ 1048576) (h0 : 0 ≤ k0) (h1 : k0 ≤ 8388608) :
    Calls Tryz.prog 50 #[.slice A n c, .int .i64 k0] w fun e w' => e = .returned (.int .i64 (k0 + n)) ∧ RowV w' g (lkCs (mkLks k0 n)) ∧ Keeps (fun b => b = g ∧ 0 < n) w w' := by
  by_cases h : 0 < n
  · refine (markInts_any A n c g k0 l w hl hA R hn h0 h1).mono fun e w' hh => ⟨hh.1, hh.2.1, hh.2.2.mono fun b hb => ⟨hb, h⟩⟩
  · obtain rfl : n = 0 := by omega
    have e : l = [] := List.eq_nil_of_length_eq_zero hl
    subst e
    refine (markInts_any A 0 c w.heap.size k0 [] w rfl (fun h => absurd h (by omega)) (rowv_nil _ _) hn h0 h1).mono fun e w' hh => ⟨hh.1, rowv_nil _ _, keep_none hh.2.2⟩
theorem Rows4.go {w w' : World} {v : Value} {s : StD} {g0 g1 g2 g3 : Nat} (h : Rows4 w v s g0 g1 g2 g3) (hb : Below w.heap.size w w') : Rows4 w' v s g0 g1 g2 g3 := by
  obtain ⟨hv, z0, R0, z1, R1, z2, R2, z3, R3, d01, d02, d03, d12, d13, d23⟩ := h
  exact ⟨hv, fun h => Nat.lt_of_lt_of_le (z0 h) hb.size, R0.go (fun h => z0 (by rw [podCs_len] at h; omega)) hb, fun h => Nat.lt_of_lt_of_le (z1 h) hb.size, R1.go (fun h => z1 (by rw [mntCs_len] at h; omega)) hb,
    fun h => Nat.lt_of_lt_of_le (z2 h) hb.size, R2.go (fun h => z2 (by rw [devCs_len] at h; omega)) hb, fun h => Nat.lt_of_lt_of_le (z3 h) hb.size, R3.go (fun h => z3 (by rw [lkCs_len] at h; omega)) hb, d01, d02, d03, d12, d13, d23⟩

/-- How many marks a state takes. -/
def totS (s : StD) : Nat := 2 * s.pods.length + 2 * s.mnts.length + s.devs.length + s.lks.length
/-- A state marked. -/
def markS (k : Int) (s : StD) : StD := { s with
  pods := mkPods k s.pods.length
  mnts := mkMnts (k + 2 * s.pods.length) s.mnts.length
  devs := mkDevs (k + 2 * s.pods.length + 2 * s.mnts.length) s.devs.length
  lks := mkLks (k + 2 * s.pods.length + 2 * s.mnts.length + s.devs.length) s.lks.length }
theorem totS_mark (k : Int) (s : StD) : totS (markS k s) = totS s := by simp [totS, markS, mkPods_len, mkMnts_len, mkDevs_len, mkLks_len]
theorem fits_mark {k : Int} {s : StD} {m : Nat} (h : StFits s m) : StFits (markS k s) m := ⟨by simp [markS, mkPods_len, h.f0], by simp [markS, mkMnts_len, h.f1], by simp [markS, mkDevs_len, h.f2], by simp [markS, mkLks_len, h.f3]⟩
set_option maxHeartbeats 2000000 in
theorem markState_any (v : Value) (s : StD) (g0 g1 g2 g3 : Nat) (k : Int) (w : World) (h : Rows4 w v s g0 g1 g2 g3) (hf : StFits s 1048576) (hk0 : 0 ≤ k) (hk1 : k + totS s ≤ 8388608) :
    Calls Tryz.prog 15 #[v, .int .i64 k] w fun e w' => e = .returned (.int .i64 (k + totS s)) ∧ Rows4 w' v (markS k s) g0 g1 g2 g3 ∧ Keeps (fun b => b = g0 ∨ b = g1 ∨ b = g2 ∨ b = g3) w w' := by
  obtain ⟨⟨A0, A1, A2, A3, c0, c1, c2, c3, rfl, a0, a1, a2, a3⟩, z0, R0, z1, R1, z2, R2, z3, R3, d01, d02, d03, d12, d13, d23⟩ := h
  obtain ⟨f0, f1, f2, f3⟩ := hf
  obtain ⟨ph, co, ck, bo, ba, lb, l0, l1, l2, l3, gd, pr⟩ := s
  unfold totS at hk1 ⊢
  unfold markS
  dsimp only at *
  have HA0 := Lib.hid a0
  have HZ0 := Lib.hid z0
  have HA1 := Lib.hid a1
  have HZ1 := Lib.hid z1
  have HA2 := Lib.hid a2
  have HZ2 := Lib.hid z2
  have HA3 := Lib.hid a3
  have HZ3 := Lib.hid z3
  generalize hq0 : l0.length = n0 at *
  have HQ0 := Lib.hid hq0
  generalize hq1 : l1.length = n1 at *
  have HQ1 := Lib.hid hq1
  generalize hq2 : l2.length = n2 at *
  have HQ2 := Lib.hid hq2
  generalize hq3 : l3.length = n3 at *
  have HQ3 := Lib.hid hq3
  clear a0 a1 a2 a3 z0 z1 z2 z3 hq0 hq1 hq2 hq3
  have K0 : Keeps (fun b => b = g0 ∨ b = g1 ∨ b = g2 ∨ b = g3) w (w.alloc (.cells (stC A0 A1 A2 A3 n0 c0 n1 c1 n2 c2 n3 c3 ph co ck bo ba lb gd pr) 40)) := Keeps.of_below ((Below.refl _ _).alloc (Nat.le_refl _) _)
  go_enter Tryz.func15, Tryz.ntmps15
  go_wp2_with fail
  have KK := K0
  have hbox := cell_new w (stC A0 A1 A2 A3 n0 c0 n1 c1 n2 c2 n3 c3 ph co ck bo ba lb gd pr) 40
  have hsz : w.heap.size < (w.alloc (.cells (stC A0 A1 A2 A3 n0 c0 n1 c1 n2 c2 n3 c3 ph co ck bo ba lb gd pr) 40)).heap.size := by simp
  replace R0 := R0.go (fun h => HZ0.out (by rw [podCs_len, HQ0.out] at h; omega)) ((Below.refl _ _).alloc (Nat.le_refl _) (.cells (stC A0 A1 A2 A3 n0 c0 n1 c1 n2 c2 n3 c3 ph co ck bo ba lb gd pr) 40))
  replace R1 := R1.go (fun h => HZ1.out (by rw [mntCs_len, HQ1.out] at h; omega)) ((Below.refl _ _).alloc (Nat.le_refl _) (.cells (stC A0 A1 A2 A3 n0 c0 n1 c1 n2 c2 n3 c3 ph co ck bo ba lb gd pr) 40))
  replace R2 := R2.go (fun h => HZ2.out (by rw [devCs_len, HQ2.out] at h; omega)) ((Below.refl _ _).alloc (Nat.le_refl _) (.cells (stC A0 A1 A2 A3 n0 c0 n1 c1 n2 c2 n3 c3 ph co ck bo ba lb gd pr) 40))
  replace R3 := R3.go (fun h => HZ3.out (by rw [lkCs_len, HQ3.out] at h; omega)) ((Below.refl _ _).alloc (Nat.le_refl _) (.cells (stC A0 A1 A2 A3 n0 c0 n1 c1 n2 c2 n3 c3 ph co ck bo ba lb gd pr) 40))
  generalize hw1 : w.alloc (.cells (stC A0 A1 A2 A3 n0 c0 n1 c1 n2 c2 n3 c3 ph co ck bo ba lb gd pr) 40) = w1 at *
  clear hw1 K0
  refine (markPodAtS_at A0 n0 c0 g0 (k) l0 w1 HQ0.out HA0.out R0 f0 (by omega) (by omega)).mono ?_
  rintro e w2 ⟨rfl, X0, hk⟩
  replace R1 := RowV.keepsC R1 hk (fun h => Nat.lt_trans (HZ1.out (by rw [mntCs_len, HQ1.out] at h; omega)) hsz) (fun h => d01 h.1.symm)
  replace R2 := RowV.keepsC R2 hk (fun h => Nat.lt_trans (HZ2.out (by rw [devCs_len, HQ2.out] at h; omega)) hsz) (fun h => d02 h.1.symm)
  replace R3 := RowV.keepsC R3 hk (fun h => Nat.lt_trans (HZ3.out (by rw [lkCs_len, HQ3.out] at h; omega)) hsz) (fun h => d03 h.1.symm)
  replace hbox := fun o => (hk.cell (p := ⟨w.heap.size, o, none⟩) hsz (fun h => by have := HZ0.out h.2; have h9 : w.heap.size = g0 := h.1; omega)).trans (hbox o)
  replace KK := KK.trans (hk.mono (fun b h => by rcases h with ⟨h, _⟩; subst h; simp))
  replace hsz := Nat.lt_of_lt_of_le hsz hk.size
  clear hk
  go_wp2_with fail
  refine (markMountAtS_at A1 n1 c1 g1 (k + 2 * (n0 : Int)) l1 w2 HQ1.out HA1.out R1 f1 (by omega) (by omega)).mono ?_
  rintro e w3 ⟨rfl, X1, hk⟩
  replace X0 := RowV.keepsC X0 hk (fun h => Nat.lt_trans (HZ0.out (by rw [podCs_len, mkPods_len] at h; omega)) hsz) (fun h => d01 h.1)
  replace R2 := RowV.keepsC R2 hk (fun h => Nat.lt_trans (HZ2.out (by rw [devCs_len, HQ2.out] at h; omega)) hsz) (fun h => d12 h.1.symm)
  replace R3 := RowV.keepsC R3 hk (fun h => Nat.lt_trans (HZ3.out (by rw [lkCs_len, HQ3.out] at h; omega)) hsz) (fun h => d13 h.1.symm)
  replace hbox := fun o => (hk.cell (p := ⟨w.heap.size, o, none⟩) hsz (fun h => by have := HZ1.out h.2; have h9 : w.heap.size = g1 := h.1; omega)).trans (hbox o)
  replace KK := KK.trans (hk.mono (fun b h => by rcases h with ⟨h, _⟩; subst h; simp))
  replace hsz := Nat.lt_of_lt_of_le hsz hk.size
  clear hk
  go_wp2_with fail
  refine (markBoolS_at A2 n2 c2 g2 (k + 2 * (n0 : Int) + 2 * (n1 : Int)) l2 w3 HQ2.out HA2.out R2 f2 (by omega) (by omega)).mono ?_
  rintro e w4 ⟨rfl, X2, hk⟩
  replace X0 := RowV.keepsC X0 hk (fun h => Nat.lt_trans (HZ0.out (by rw [podCs_len, mkPods_len] at h; omega)) hsz) (fun h => d02 h.1)
  replace X1 := RowV.keepsC X1 hk (fun h => Nat.lt_trans (HZ1.out (by rw [mntCs_len, mkMnts_len] at h; omega)) hsz) (fun h => d12 h.1)
  replace R3 := RowV.keepsC R3 hk (fun h => Nat.lt_trans (HZ3.out (by rw [lkCs_len, HQ3.out] at h; omega)) hsz) (fun h => d23 h.1.symm)
  replace hbox := fun o => (hk.cell (p := ⟨w.heap.size, o, none⟩) hsz (fun h => by have := HZ2.out h.2; have h9 : w.heap.size = g2 := h.1; omega)).trans (hbox o)
  replace KK := KK.trans (hk.mono (fun b h => by rcases h with ⟨h, _⟩; subst h; simp))
  replace hsz := Nat.lt_of_lt_of_le hsz hk.size
  clear hk
  go_wp2_with fail
  refine (markInts_at A3 n3 c3 g3 (k + 2 * (n0 : Int) + 2 * (n1 : Int) + (n2 : Int)) l3 w4 HQ3.out HA3.out R3 f3 (by omega) (by omega)).mono ?_
  rintro e w5 ⟨rfl, X3, hk⟩
  replace X0 := RowV.keepsC X0 hk (fun h => Nat.lt_trans (HZ0.out (by rw [podCs_len, mkPods_len] at h; omega)) hsz) (fun h => d03 h.1)
  replace X1 := RowV.keepsC X1 hk (fun h => Nat.lt_trans (HZ1.out (by rw [mntCs_len, mkMnts_len] at h; omega)) hsz) (fun h => d13 h.1)
  replace X2 := RowV.keepsC X2 hk (fun h => Nat.lt_trans (HZ2.out (by rw [devCs_len, mkDevs_len] at h; omega)) hsz) (fun h => d23 h.1)
  replace hbox := fun o => (hk.cell (p := ⟨w.heap.size, o, none⟩) hsz (fun h => by have := HZ3.out h.2; have h9 : w.heap.size = g3 := h.1; omega)).trans (hbox o)
  replace KK := KK.trans (hk.mono (fun b h => by rcases h with ⟨h, _⟩; subst h; simp))
  replace hsz := Nat.lt_of_lt_of_le hsz hk.size
  clear hk
  go_wp2_with fail
  go_ret
  refine ⟨?_, ?_, KK⟩
  · show Ending.returned (Value.int .i64 _) = _
    congr 2
    push_cast
    omega
  · exact { val := ⟨A0, A1, A2, A3, c0, c1, c2, c3, by simp only [mkPods_len, mkMnts_len, mkDevs_len, mkLks_len], fun h => HA0.out (by simpa [mkPods_len] using h), fun h => HA1.out (by simpa [mkMnts_len] using h), fun h => HA2.out (by simpa [mkDevs_len] using h), fun h => HA3.out (by simpa [mkLks_len] using h)⟩, z0 := fun h => Nat.lt_trans (HZ0.out (by simpa [mkPods_len] using h)) hsz, z1 := fun h => Nat.lt_trans (HZ1.out (by simpa [mkMnts_len] using h)) hsz, z2 := fun h => Nat.lt_trans (HZ2.out (by simpa [mkDevs_len] using h)) hsz, z3 := fun h => Nat.lt_trans (HZ3.out (by simpa [mkLks_len] using h)) hsz, R0 := X0, R1 := X1, R2 := X2, R3 := X3, d01 := d01, d02 := d02, d03 := d03, d12 := d12, d13 := d13, d23 := d23 }

set_option maxHeartbeats 2000000 in
theorem heldState_any (v : Value) (s : StD) (g0 g1 g2 g3 : Nat) (k : Int) (w : World) (h : Rows4 w v (markS k s) g0 g1 g2 g3) (hf : StFits s 1048576) (hk0 : 0 ≤ k) (hk1 : k + totS s ≤ 8388608) :
    Calls Tryz.prog 16 #[v, .int .i64 k] w fun e w' => e = .returned (.int .i64 (k + totS s)) ∧ Below w.heap.size w w' := by
  obtain ⟨⟨A0, A1, A2, A3, c0, c1, c2, c3, rfl, a0, a1, a2, a3⟩, z0, R0, z1, R1, z2, R2, z3, R3, -, -, -, -, -, -⟩ := h
  obtain ⟨f0, f1, f2, f3⟩ := hf
  obtain ⟨ph, co, ck, bo, ba, lb, l0, l1, l2, l3, gd, pr⟩ := s
  unfold totS at hk1 ⊢
  unfold markS at *
  dsimp only at *
  simp only [mkPods_len, mkMnts_len, mkDevs_len, mkLks_len] at *
  have HA0 := Lib.hid a0
  have HZ0 := Lib.hid z0
  have HR0 := Lib.hid R0
  have HA1 := Lib.hid a1
  have HZ1 := Lib.hid z1
  have HR1 := Lib.hid R1
  have HA2 := Lib.hid a2
  have HZ2 := Lib.hid z2
  have HR2 := Lib.hid R2
  have HA3 := Lib.hid a3
  have HZ3 := Lib.hid z3
  have HR3 := Lib.hid R3
  generalize hq0 : l0.length = n0 at *
  generalize hq1 : l1.length = n1 at *
  generalize hq2 : l2.length = n2 at *
  generalize hq3 : l3.length = n3 at *
  clear a0 a1 a2 a3 z0 z1 z2 z3 hq0 hq1 hq2 hq3 R0 R1 R2 R3
  have X : Below w.heap.size w (w.alloc (.cells (stC A0 A1 A2 A3 n0 c0 n1 c1 n2 c2 n3 c3 ph co ck bo ba lb gd pr) 40)) := (Below.refl _ _).alloc (Nat.le_refl _) _
  go_enter Tryz.func16, Tryz.ntmps16
  go_wp2_with fail
  refine (heldPodAtS_any A0 n0 c0 g0 (k) _ HA0.out (HR0.out.go (fun h => HZ0.out (by simp only [podCs_len, mkPods_len] at h; omega)) X) f0 (by omega) (by omega)).mono ?_
  rintro e w2 ⟨rfl, rfl⟩
  go_wp2_with fail
  refine (heldMountAtS_any A1 n1 c1 g1 (k + 2 * (n0 : Int)) _ HA1.out (HR1.out.go (fun h => HZ1.out (by simp only [mntCs_len, mkMnts_len] at h; omega)) X) f1 (by omega) (by omega)).mono ?_
  rintro e w3 ⟨rfl, rfl⟩
  go_wp2_with fail
  refine (heldBoolS_any A2 n2 c2 g2 (k + 2 * (n0 : Int) + 2 * (n1 : Int)) _ HA2.out (HR2.out.go (fun h => HZ2.out (by simp only [devCs_len, mkDevs_len] at h; omega)) X) f2 (by omega) (by omega)).mono ?_
  rintro e w4 ⟨rfl, rfl⟩
  go_wp2_with fail
  refine (heldInts_any A3 n3 c3 g3 (k + 2 * (n0 : Int) + 2 * (n1 : Int) + (n2 : Int)) _ HA3.out (HR3.out.go (fun h => HZ3.out (by simp only [lkCs_len, mkLks_len] at h; omega)) X) f3 (by omega) (by omega)).mono ?_
  rintro e w5 ⟨rfl, rfl⟩
  go_wp2_with fail
  go_ret
  refine ⟨?_, X⟩
  show Ending.returned (Value.int .i64 _) = _
  congr 2
  push_cast
  omega
end Go.Proofs.YtlfppcppjbfieaaGreatDoor
