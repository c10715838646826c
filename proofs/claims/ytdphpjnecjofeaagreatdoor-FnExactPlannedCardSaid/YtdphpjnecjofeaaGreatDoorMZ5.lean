/-
  The laws' own small functions on bytes and records: sizes, copies, comparisons, marks.
-/
import Derived.Test.YtdphpjnecjofeaaGreatDoorMZ4
import Derived.Deep.RegionHeld3
import Derived.Test.YtdphpjnecjofeaaGreatDoorMZ0
import Derived.Test.YtdphpjnecjofeaaGreatDoorMZ2
import Derived.BigQuiet
import Derived.Deep.QuietTactic
/- Ul -/
set_option linter.unusedVariables false
namespace Go.Proofs.YtdphpjnecjofeaaGreatDoor
open Go.RowKit

theorem IsPlan.go {w w' : World} {v : Value} {d : PlanD} (h : IsPlan w w.heap.size v d) (hb : Below w.heap.size w w') : IsPlan w' w'.heap.size v d := (h.below hb (Nat.le_refl _)).more hb.size

end Go.Proofs.YtdphpjnecjofeaaGreatDoor
/- Ug -/
set_option linter.unusedVariables false
namespace Go.Proofs.YtdphpjnecjofeaaGreatDoor
open Go.ChangeShapes Go.WideShapes Go.ChangeAt Go.RowKit Go.Deep

theorem podCs_map (X : Nat → Int) (n : Nat) {j : Nat} (hj : j < n * 2) : (podCs ((List.range n).map fun i => (X (i * 2), X (i * 2 + 1))))[j]? = some (.int .i64 (X j)) := by
  have hi : j / 2 < ((List.range n).map fun i => (X (i * 2), X (i * 2 + 1))).length := by simp; omega
  obtain ⟨p0, p1⟩ := podCs_at _ hi
  have e : podA ((List.range n).map fun i => (X (i * 2), X (i * 2 + 1))) (j / 2) = (X (j / 2 * 2), X (j / 2 * 2 + 1)) := by simp [podA, List.getD, show j / 2 < n by omega]
  rw [e] at p0 p1
  dsimp only at p0 p1
  rcases (by omega : j = j / 2 * 2 ∨ j = j / 2 * 2 + 1) with h | h
  · rw [← h] at p0; exact p0
  · rw [← h] at p1; exact p1
theorem slv_pods {w : World} {B n : Nat} {A : Option Addr} {X : Nat → Int} (h : Sl w B 2 A n X) : SlV w B 2 A n (podCs ((List.range n).map fun i => (X (i * 2), X (i * 2 + 1)))) := by
  refine ⟨by rw [podCs_len]; simp, fun hn => ?_⟩
  obtain ⟨b, off, rfl, hb, hc⟩ := h hn
  exact ⟨b, off, rfl, hb, fun j hj => by rw [hc j hj, podCs_map X n hj]⟩
theorem slv_ints {w : World} {B n : Nat} {A : Option Addr} {X : Nat → Int} (h : Sl w B 1 A n X) : SlV w B 1 A n (lkCs ((List.range n).map X)) := by
  refine ⟨by rw [lkCs_len]; simp, fun hn => ?_⟩
  obtain ⟨b, off, rfl, hb, hc⟩ := h hn
  exact ⟨b, off, rfl, hb, fun j hj => by rw [hc j hj]; simp [lkCs, show j < n by omega]⟩

section
variable {H : Type} {enc : TypeId × Value → H} {P : Program} {w : World} {spare : Nat → Bool} {held : Bool}
/-- A slice of bools. -/
theorem slv_bools {t e : TypeId} {fuel : Nat} {v : Value} {x : DataW H × List MemPlace} (ht : P.underlying t = some (.slice e)) (he : P.underlying e = some .bool) (hC : P.cellsOf e = 1)
    (h : DataW.trod enc P w 0 spare held fuel t [v] = some x) : ∃ A c l, v = .slice A (List.length l) c ∧ l.length ≤ maxLen ∧ SlV w w.heap.size 1 A l.length (devCs l) := by
  rcases open_slice1 ht hC h with ⟨h1, _⟩ | ⟨a, len, cap, m, n, V, D, Pl, hcs, hb, hl, hm, hmm, hx, hi⟩
  · injection h1 with h1 _
    exact ⟨none, 0, [], h1, Nat.zero_le _, SlV.nil _ _ _ _⟩
  · injection hcs with hv _
    have hlm : len ≤ m := by rw [hmm]; split <;> omega
    obtain ⟨F, hF⟩ := choose_lt (α := Bool) (n := len) (p := fun i q => w.cell? (a.add i) = some (.bool q)) (fun i hin => by
      obtain ⟨h1, h2⟩ := hi i (by omega)
      obtain ⟨b, hb, _⟩ := DataW.trod_bool he h2
      injection hb with hb _
      exact ⟨b, by rw [h1, hb]⟩)
    have hlen : ((List.range len).map F).length = len := by simp
    refine ⟨some a, cap, (List.range len).map F, by rw [hlen]; exact hv, by rw [hlen]; exact Nat.le_trans hl hm, ⟨devCs_len _, fun hn => ?_⟩⟩
    rw [hlen] at hn ⊢
    have hsp : a.spot = none := by
      have := hF 0 hn
      simpa [Addr.add] using World.cell?_spot this
    obtain ⟨b, off, sp⟩ := a
    subst hsp
    have h0 := hF 0 hn
    rw [add_plain] at h0
    refine ⟨b, off, rfl, block_lt_of_cell h0, fun j hj => ?_⟩
    have := hF j (by omega)
    rw [add_plain] at this
    rw [this]
    simp [devCs, show j < len by omega]
/-- A slice of structs of a bool and an int64. -/
theorem slv_mnts {t e : TypeId} {fs : Array Field} {fuel : Nat} {v : Value} {x : DataW H × List MemPlace} (ht : P.underlying t = some (.slice e)) (he : P.underlying e = some (.struct fs))
    (hone : oneCellFields P fs = true) (hC : P.cellsOf e = 2) {f0 f1 : Field} (hf0 : fs[0]? = some f0) (hf1 : fs[1]? = some f1) (t0 : P.underlying f0.type = some .bool) (t1 : P.underlying f1.type = some (.int .i64))
    (h : DataW.trod enc P w 0 spare held fuel t [v] = some x) : ∃ A c l, v = .slice A (List.length l) c ∧ l.length ≤ maxLen ∧ SlV w w.heap.size 2 A l.length (mntCs l) := by
  rcases open_slice ht h with ⟨h1, _⟩ | ⟨a, len, cap, m, n, D, Pl, hcs, hb, hl, hm, hmm, hx, hi⟩
  · injection h1 with h1 _
    exact ⟨none, 0, [], h1, Nat.zero_le _, SlV.nil _ _ _ _⟩
  · injection hcs with hv _
    have hlm : len ≤ m := by rw [hmm]; split <;> omega
    obtain ⟨F, hF⟩ := choose_lt (α := Bool × Int) (n := len) (p := fun i q => w.cell? ((a.add (i * 2)).add 0) = some (.bool q.1) ∧ w.cell? ((a.add (i * 2)).add 1) = some (.int .i64 q.2)) (fun i hin => by
      obtain ⟨cs', hc, ht'⟩ := hi i (by omega)
      rw [hC] at hc
      obtain ⟨ys, n', _, hy, hlen, hyl, hf⟩ := DataW.trod_struct he ht'
      obtain ⟨_, hcl, hat⟩ := World.cells?_some hc
      have hone' : ∀ j, (hj : j < 2) → (cs'.drop j).take 1 = [cs'[j]'(by omega)] := fun j hj => by
        rw [List.drop_eq_getElem_cons (by omega)]
        rfl
      obtain ⟨o0, k0⟩ := hone_of hone 0 f0 hf0
      obtain ⟨o1, k1⟩ := hone_of hone 1 f1 hf1
      have h0 := hf 0 f0 hf0
      have h1 := hf 1 f1 hf1
      have ys2 : ys.length = fs.size := hyl
      have hs2 : 1 < fs.size := (Array.getElem?_eq_some_iff.1 hf1).1
      rw [o0, k0, hone' 0 (by omega), List.getElem?_eq_getElem (by omega)] at h0
      rw [o1, k1, hone' 1 (by omega), List.getElem?_eq_getElem (by omega)] at h1
      obtain ⟨b, hb, _⟩ := DataW.trod_bool t0 h0
      obtain ⟨z, hz, _, _⟩ := DataW.trod_int t1 h1
      injection hb with hb _
      injection hz with hz _
      exact ⟨(b, z), by rw [hat 0 (by omega), List.getElem?_eq_getElem (by omega), hb], by rw [hat 1 (by omega), List.getElem?_eq_getElem (by omega), hz]⟩)
    have hlen : ((List.range len).map F).length = len := by simp
    refine ⟨some a, cap, (List.range len).map F, by rw [hlen]; exact hv, by rw [hlen]; exact Nat.le_trans hl hm, ⟨mntCs_len _, fun hn => ?_⟩⟩
    rw [hlen] at hn ⊢
    have hsp : a.spot = none := by
      have := (hF 0 hn).1
      simpa [Addr.add] using World.cell?_spot this
    obtain ⟨b, off, sp⟩ := a
    subst hsp
    have h0 := (hF 0 hn).1
    rw [add_plain, add_plain] at h0
    refine ⟨b, off, rfl, block_lt_of_cell h0, fun j hj => ?_⟩
    have hjl : j / 2 < ((List.range len).map F).length := by rw [hlen]; omega
    obtain ⟨p0, p1⟩ := mntCs_at _ hjl
    have e : mntA ((List.range len).map F) (j / 2) = F (j / 2) := by simp [mntA, List.getD, show j / 2 < len by omega]
    rw [e] at p0 p1
    have hh := hF (j / 2) (by omega)
    rw [add_plain, add_plain, add_plain] at hh
    rcases (by omega : j = j / 2 * 2 ∨ j = j / 2 * 2 + 1) with h | h
    · rw [← h] at p0 hh
      rw [p0]
      have := hh.1
      rwa [Nat.add_zero] at this
    · rw [← h] at p1
      rw [p1]
      have := hh.2
      rwa [Nat.add_assoc, ← h] at this
end

theorem fields_state : ∃ fs, Tryz.prog.underlying 32 = some (.struct fs) ∧ oneCellFields Tryz.prog fs = true ∧ Tryz.prog.cellsOf 32 = fs.size ∧ fs.size = 12 ∧
    fs.map (·.type) = #[2, 4, 2, 2, 2, 2, 28, 29, 30, 23, 2, 2] :=
  ⟨_, Tryz.underlying32, by kernel_rfl, by kernel_rfl, by kernel_rfl, by kernel_rfl⟩
theorem fs_podAt : ∃ fs, Tryz.prog.underlying 157 = some (.struct fs) ∧ oneCellFields Tryz.prog fs = true ∧ intFields Tryz.prog fs = true ∧ fs.size = 2 := ⟨_, Tryz.underlying157, by kernel_rfl, by kernel_rfl, by kernel_rfl⟩
theorem fs_mntAt : ∃ fs, Tryz.prog.underlying 159 = some (.struct fs) ∧ oneCellFields Tryz.prog fs = true ∧ fs.map (·.type) = #[4, 2] := ⟨_, Tryz.underlying159, by kernel_rfl, by kernel_rfl⟩

set_option maxRecDepth 100000 in
theorem open_state {H : Type} {enc : TypeId × Value → H} {W : World} {spare : Nat → Bool} {held : Bool} {r : Reach} {b0 : Nat} {v : Value} {d : DataW H} {p : List MemPlace}
    (hv : Value.okWide Tryz.prog W r b0 32 v) (h : DataW.Trod enc Tryz.prog W 0 spare held 32 v d p) : ∃ s : StD, IsSt W W.heap.size v s := by
  obtain ⟨fs, hu, hone, hC, h12, hts⟩ := fields_state
  obtain ⟨cs, rfl, hsz, n, hf⟩ := agg_of_trod hu hone hC hv h
  rw [h12] at hsz
  obtain ⟨f0, j0, t0⟩ := at_of_map hts (j := 0) rfl
  obtain ⟨y0, h0⟩ := hf 0 f0 j0
  rw [t0] at h0
  obtain ⟨f1, j1, t1⟩ := at_of_map hts (j := 1) rfl
  obtain ⟨y1, h1⟩ := hf 1 f1 j1
  rw [t1] at h1
  obtain ⟨f2, j2, t2⟩ := at_of_map hts (j := 2) rfl
  obtain ⟨y2, h2⟩ := hf 2 f2 j2
  rw [t2] at h2
  obtain ⟨f3, j3, t3⟩ := at_of_map hts (j := 3) rfl
  obtain ⟨y3, h3⟩ := hf 3 f3 j3
  rw [t3] at h3
  obtain ⟨f4, j4, t4⟩ := at_of_map hts (j := 4) rfl
  obtain ⟨y4, h4⟩ := hf 4 f4 j4
  rw [t4] at h4
  obtain ⟨f5, j5, t5⟩ := at_of_map hts (j := 5) rfl
  obtain ⟨y5, h5⟩ := hf 5 f5 j5
  rw [t5] at h5
  obtain ⟨f6, j6, t6⟩ := at_of_map hts (j := 6) rfl
  obtain ⟨y6, h6⟩ := hf 6 f6 j6
  rw [t6] at h6
  obtain ⟨f7, j7, t7⟩ := at_of_map hts (j := 7) rfl
  obtain ⟨y7, h7⟩ := hf 7 f7 j7
  rw [t7] at h7
  obtain ⟨f8, j8, t8⟩ := at_of_map hts (j := 8) rfl
  obtain ⟨y8, h8⟩ := hf 8 f8 j8
  rw [t8] at h8
  obtain ⟨f9, j9, t9⟩ := at_of_map hts (j := 9) rfl
  obtain ⟨y9, h9⟩ := hf 9 f9 j9
  rw [t9] at h9
  obtain ⟨f10, j10, t10⟩ := at_of_map hts (j := 10) rfl
  obtain ⟨y10, h10⟩ := hf 10 f10 j10
  rw [t10] at h10
  obtain ⟨f11, j11, t11⟩ := at_of_map hts (j := 11) rfl
  obtain ⟨y11, h11⟩ := hf 11 f11 j11
  rw [t11] at h11
  obtain ⟨z0, e0, _, _⟩ := DataW.trod_int Tryz.underlying2 h0
  injection e0 with e0 _
  obtain ⟨z1, e1, _⟩ := DataW.trod_bool Tryz.underlying4 h1
  injection e1 with e1 _
  obtain ⟨z2, e2, _, _⟩ := DataW.trod_int Tryz.underlying2 h2
  injection e2 with e2 _
  obtain ⟨z3, e3, _, _⟩ := DataW.trod_int Tryz.underlying2 h3
  injection e3 with e3 _
  obtain ⟨z4, e4, _, _⟩ := DataW.trod_int Tryz.underlying2 h4
  injection e4 with e4 _
  obtain ⟨z5, e5, _, _⟩ := DataW.trod_int Tryz.underlying2 h5
  injection e5 with e5 _
  obtain ⟨z10, e10, _, _⟩ := DataW.trod_int Tryz.underlying2 h10
  injection e10 with e10 _
  obtain ⟨z11, e11, _, _⟩ := DataW.trod_int Tryz.underlying2 h11
  injection e11 with e11 _
  obtain ⟨ps, ps1, ps2, ps3, ps4⟩ := fs_podAt
  obtain ⟨ms, ms1, ms2, ms3⟩ := fs_mntAt
  obtain ⟨q0, i0, u0⟩ := at_of_map ms3 (j := 0) rfl
  obtain ⟨q1, i1, u1⟩ := at_of_map ms3 (j := 1) rfl
  obtain ⟨A6, n6, c6, X6, e6, b6, s6⟩ := sl_structs Tryz.underlying28 ps1 ps2 ps3 (by kernel_rfl) ps4 (by omega) h6
  obtain ⟨A7, c7, l7, e7, b7, s7⟩ := slv_mnts Tryz.underlying29 ms1 ms2 (by kernel_rfl) i0 i1 (by rw [u0]; exact Tryz.underlying4) (by rw [u1]; exact Tryz.underlying2) h7
  obtain ⟨A8, c8, l8, e8, b8, s8⟩ := slv_bools Tryz.underlying30 Tryz.underlying4 (by kernel_rfl) h8
  obtain ⟨A9, n9, c9, X9, e9, b9, s9⟩ := sl_ints Tryz.underlying23 Tryz.underlying2 (by kernel_rfl) h9
  have k6 : ((List.range n6).map fun i => (X6 (i * 2), X6 (i * 2 + 1))).length = n6 := by simp
  have k9 : ((List.range n9).map X9).length = n9 := by simp
  refine ⟨⟨z0, z1, z2, z3, z4, z5, (List.range n6).map fun i => (X6 (i * 2), X6 (i * 2 + 1)), l7, l8, (List.range n9).map X9, z10, z11⟩, ⟨A6, A7, A8, A9, c6, c7, c8, c9, ?_, by rw [k6]; exact slv_pods s6, s7, s8, by rw [k9]; exact slv_ints s9⟩, by rw [k6]; exact b6, b7, b8, by rw [k9]; exact b9⟩
  dsimp only
  rw [k6, k9]
  congr 1
  apply Array.ext (by simp [hsz])
  intro i hi _
  match i, hi with
  | 0, _ => exact e0
  | 1, _ => exact e1
  | 2, _ => exact e2
  | 3, _ => exact e3
  | 4, _ => exact e4
  | 5, _ => exact e5
  | 6, _ => exact e6
  | 7, _ => exact e7
  | 8, _ => exact e8
  | 9, _ => exact e9
  | 10, _ => exact e10
  | 11, _ => exact e11
  | k + 12, hi => omega
end Go.Proofs.YtdphpjnecjofeaaGreatDoor
/- Vd -/
set_option linter.unusedVariables false
namespace Go.Proofs.YtdphpjnecjofeaaGreatDoor
open Go.RowKit

theorem slv_of_row {w : World} {B k n g : Nat} {A : Option Addr} {xs : List Value} (hA : 0 < n → A = some ⟨g, 0, none⟩) (hz : 0 < n → g < B) (R : RowV w g xs) (hl : xs.length = n * k) : SlV w B k A n xs :=
  ⟨hl, fun hn => ⟨g, 0, hA hn, hz hn, fun j hj => by rw [Nat.zero_add]; exact (R j (by omega)).1⟩⟩
theorem Rows4.is {w : World} {v : Value} {s : StD} {g0 g1 g2 g3 : Nat} (h : Rows4 w v s g0 g1 g2 g3) (hf : StFits s 1048576) : IsSt w w.heap.size v s := by
  obtain ⟨⟨A0, A1, A2, A3, c0, c1, c2, c3, hv, a0, a1, a2, a3⟩, z0, R0, z1, R1, z2, R2, z3, R3, -, -, -, -, -, -⟩ := h
  obtain ⟨f0, f1, f2, f3⟩ := hf
  have hm : 1048576 ≤ maxLen := by unfold maxLen; decide
  exact ⟨⟨A0, A1, A2, A3, c0, c1, c2, c3, hv, slv_of_row a0 z0 R0 (podCs_len _), slv_of_row a1 z1 R1 (mntCs_len _), slv_of_row a2 z2 R2 (devCs_len _), slv_of_row a3 z3 R3 (lkCs_len _)⟩, by omega, by omega, by omega, by omega⟩
theorem Rows4.keeps {S : Nat → Prop} {w w' : World} {v : Value} {s : StD} {g0 g1 g2 g3 : Nat} (h : Rows4 w v s g0 g1 g2 g3) (k : Keeps S w w') (n0 : 0 < s.pods.length → ¬ S g0) (n1 : 0 < s.mnts.length → ¬ S g1) (n2 : 0 < s.devs.length → ¬ S g2) (n3 : 0 < s.lks.length → ¬ S g3) : Rows4 w' v s g0 g1 g2 g3 := by
  obtain ⟨hv, z0, R0, z1, R1, z2, R2, z3, R3, d01, d02, d03, d12, d13, d23⟩ := h
  have e0 : (podCs s.pods).length = s.pods.length * 2 := podCs_len _
  have e1 : (mntCs s.mnts).length = s.mnts.length * 2 := mntCs_len _
  have e2 : (devCs s.devs).length = s.devs.length * 1 := devCs_len _
  have e3 : (lkCs s.lks).length = s.lks.length * 1 := lkCs_len _
  exact ⟨hv, fun h => Nat.lt_of_lt_of_le (z0 h) k.size, fun j hj => RowV.keeps R0 k (z0 (by omega)) (n0 (by omega)) j hj, fun h => Nat.lt_of_lt_of_le (z1 h) k.size, fun j hj => RowV.keeps R1 k (z1 (by omega)) (n1 (by omega)) j hj,
    fun h => Nat.lt_of_lt_of_le (z2 h) k.size, fun j hj => RowV.keeps R2 k (z2 (by omega)) (n2 (by omega)) j hj, fun h => Nat.lt_of_lt_of_le (z3 h) k.size, fun j hj => RowV.keeps R3 k (z3 (by omega)) (n3 (by omega)) j hj, d01, d02, d03, d12, d13, d23⟩
/-- A state whose lists, where they hold something, lie in blocks of their own from B to E. -/
structure RowsIn (w : World) (v : Value) (s : StD) (B E : Nat) : Prop where
  it : ∃ g0 g1 g2 g3, Rows4 w v s g0 g1 g2 g3 ∧ (B ≤ g0 ∧ B ≤ g1 ∧ B ≤ g2 ∧ B ≤ g3) ∧ (0 < s.pods.length → g0 < E) ∧ (0 < s.mnts.length → g1 < E) ∧ (0 < s.devs.length → g2 < E) ∧ (0 < s.lks.length → g3 < E)
theorem RowsIn.of {w : World} {B : Nat} {v : Value} {s : StD} (h : OwnSt w B v s) (hB : B ≤ w.heap.size) : RowsIn w v s B w.heap.size := by
  obtain ⟨g0, g1, g2, g3, R, b0, b1, b2, b3⟩ := h.rows hB
  exact ⟨g0, g1, g2, g3, R, ⟨b0, b1, b2, b3⟩, R.z0, R.z1, R.z2, R.z3⟩
theorem RowsIn.val {w : World} {B E : Nat} {v : Value} {s : StD} (h : RowsIn w v s B E) : ∃ A0 A1 A2 A3 c0 c1 c2 c3, v = .agg (stC A0 A1 A2 A3 s.pods.length c0 s.mnts.length c1 s.devs.length c2 s.lks.length c3 s.ph s.co s.ck s.bo s.ba s.lb s.gd s.pr) := by
  obtain ⟨g0, g1, g2, g3, R, -⟩ := h.it
  obtain ⟨A0, A1, A2, A3, c0, c1, c2, c3, hv, -⟩ := R.val
  exact ⟨A0, A1, A2, A3, c0, c1, c2, c3, hv⟩
theorem RowsIn.go {w w' : World} {B E : Nat} {v : Value} {s : StD} (h : RowsIn w v s B E) (hb : Below w.heap.size w w') : RowsIn w' v s B E := by
  obtain ⟨g0, g1, g2, g3, R, bs, es⟩ := h.it
  exact ⟨g0, g1, g2, g3, R.go hb, bs, es⟩
theorem RowsIn.is {w : World} {B E : Nat} {v : Value} {s : StD} (h : RowsIn w v s B E) (hf : StFits s 1048576) : IsSt w w.heap.size v s := by
  obtain ⟨g0, g1, g2, g3, R, -⟩ := h.it
  exact R.is hf
theorem RowsIn.keeps {S : Nat → Prop} {w w' : World} {B E : Nat} {v : Value} {s : StD} (h : RowsIn w v s B E) (k : Keeps S w w') (hS : ∀ b, B ≤ b → b < E → ¬ S b) : RowsIn w' v s B E := by
  obtain ⟨g0, g1, g2, g3, R, ⟨b0, b1, b2, b3⟩, e0, e1, e2, e3⟩ := h.it
  exact ⟨g0, g1, g2, g3, R.keeps k (fun h => hS _ b0 (e0 h)) (fun h => hS _ b1 (e1 h)) (fun h => hS _ b2 (e2 h)) (fun h => hS _ b3 (e3 h)), ⟨b0, b1, b2, b3⟩, e0, e1, e2, e3⟩
theorem if_pick {n g m : Nat} : ∃ h, (0 < n → h = g) ∧ (¬ 0 < n → h = m) := by
  by_cases hn : 0 < n
  · exact ⟨g, fun _ => rfl, fun h => absurd hn h⟩
  · exact ⟨m, fun h => absurd h hn, fun _ => rfl⟩
theorem row_pick {w : World} {n g h : Nat} {xs : List Value} {k : Nat} (R : RowV w g xs) (e : 0 < n → h = g) (hl : xs.length = n * k) : RowV w h xs := by
  intro j hj
  have hn : 0 < n := Nat.pos_of_ne_zero fun h0 => by rw [h0, Nat.zero_mul] at hl; omega
  rw [e hn]
  exact R j hj
/-- The same rows, those that hold nothing named by numbers behind the heap. -/
theorem RowsIn.apart {w : World} {B E : Nat} {v : Value} {s : StD} (h : RowsIn w v s B E) : ∃ g0 g1 g2 g3, Rows4 w v s g0 g1 g2 g3 ∧ (B ≤ g0 ∧ B ≤ g1 ∧ B ≤ g2 ∧ B ≤ g3) ∧ ((0 < s.pods.length → g0 < E) ∧ (0 < s.mnts.length → g1 < E) ∧ (0 < s.devs.length → g2 < E) ∧ (0 < s.lks.length → g3 < E)) ∧
    ∀ b, b < w.heap.size → (b = g0 ∨ b = g1 ∨ b = g2 ∨ b = g3) → B ≤ b ∧ b < E := by
  obtain ⟨g0, g1, g2, g3, R, ⟨b0, b1, b2, b3⟩, e0, e1, e2, e3⟩ := h.it
  obtain ⟨⟨A0, A1, A2, A3, c0, c1, c2, c3, hv, a0, a1, a2, a3⟩, z0, R0, z1, R1, z2, R2, z3, R3, d01, d02, d03, d12, d13, d23⟩ := R
  obtain ⟨h0, p0, q0⟩ := if_pick (n := s.pods.length) (g := g0) (m := w.heap.size + B)
  obtain ⟨h1, p1, q1⟩ := if_pick (n := s.mnts.length) (g := g1) (m := w.heap.size + B + 1)
  obtain ⟨h2, p2, q2⟩ := if_pick (n := s.devs.length) (g := g2) (m := w.heap.size + B + 2)
  obtain ⟨h3, p3, q3⟩ := if_pick (n := s.lks.length) (g := g3) (m := w.heap.size + B + 3)
  have k0 : B ≤ h0 := by by_cases hn : 0 < s.pods.length <;> simp [p0, q0, hn] <;> omega
  have k1 : B ≤ h1 := by by_cases hn : 0 < s.mnts.length <;> simp [p1, q1, hn] <;> omega
  have k2 : B ≤ h2 := by by_cases hn : 0 < s.devs.length <;> simp [p2, q2, hn] <;> omega
  have k3 : B ≤ h3 := by by_cases hn : 0 < s.lks.length <;> simp [p3, q3, hn] <;> omega
  refine ⟨h0, h1, h2, h3, ⟨⟨A0, A1, A2, A3, c0, c1, c2, c3, hv, fun h => by rw [p0 h]; exact a0 h, fun h => by rw [p1 h]; exact a1 h, fun h => by rw [p2 h]; exact a2 h, fun h => by rw [p3 h]; exact a3 h⟩,
    fun h => by rw [p0 h]; exact z0 h, row_pick R0 p0 (podCs_len _), fun h => by rw [p1 h]; exact z1 h, row_pick R1 p1 (mntCs_len _), fun h => by rw [p2 h]; exact z2 h, row_pick R2 p2 (devCs_len _), fun h => by rw [p3 h]; exact z3 h, row_pick R3 p3 (lkCs_len _), ?_, ?_, ?_, ?_, ?_, ?_⟩,
    ⟨k0, k1, k2, k3⟩, ⟨fun h => by rw [p0 h]; exact e0 h, fun h => by rw [p1 h]; exact e1 h, fun h => by rw [p2 h]; exact e2 h, fun h => by rw [p3 h]; exact e3 h⟩, ?_⟩
  all_goals
    by_cases n0 : 0 < s.pods.length <;> by_cases n1 : 0 < s.mnts.length <;> by_cases n2 : 0 < s.devs.length <;> by_cases n3 : 0 < s.lks.length <;>
      simp only [n0, n1, n2, n3, true_implies, not_true_eq_false, not_false_eq_true, false_implies] at p0 q0 p1 q1 p2 q2 p3 q3 z0 z1 z2 z3 e0 e1 e2 e3 <;> (try intro b hb hor) <;> omega
theorem Keeps.into {S S' : Nat → Prop} {w w' : World} (k : Keeps S w w') (h : ∀ b, b < w.heap.size → S b → S' b) : Keeps S' w w' := ⟨k.os, k.tape, k.output, k.size, fun b hb hn => k.block b hb fun hs => hn (h b hb hs)⟩
theorem markIn_any (v : Value) (s : StD) (B E : Nat) (k : Int) (w : World) (h : RowsIn w v s B E) (hf : StFits s 1048576) (hk0 : 0 ≤ k) (hk1 : k + totS s ≤ 8388608) :
    Calls Tryz.prog 17 #[v, .int .i64 k] w fun e w' => e = .returned (.int .i64 (k + totS s)) ∧ RowsIn w' v (markS k s) B E ∧ Keeps (fun b => B ≤ b ∧ b < E) w w' := by
  obtain ⟨g0, g1, g2, g3, R, bs, es, hs⟩ := h.apart
  refine (markState_any v s g0 g1 g2 g3 k w R hf hk0 hk1).mono ?_
  rintro e w' ⟨he, R', k'⟩
  exact ⟨he, ⟨g0, g1, g2, g3, R', bs, by simpa [markS, mkPods_len, mkMnts_len, mkDevs_len, mkLks_len] using es⟩, k'.into hs⟩
theorem heldIn_any (v : Value) (s : StD) (B E : Nat) (k : Int) (w : World) (h : RowsIn w v (markS k s) B E) (hf : StFits s 1048576) (hk0 : 0 ≤ k) (hk1 : k + totS s ≤ 8388608) :
    Calls Tryz.prog 18 #[v, .int .i64 k] w fun e w' => e = .returned (.int .i64 (k + totS s)) ∧ Below w.heap.size w w' := by
  obtain ⟨g0, g1, g2, g3, R, -⟩ := h.it
  exact heldState_any v s g0 g1 g2 g3 k w R hf hk0 hk1
theorem fits_tot {s : StD} (hf : StFits s 1048576) : totS s ≤ 6291456 := by
  obtain ⟨f0, f1, f2, f3⟩ := hf
  unfold totS
  omega
end Go.Proofs.YtdphpjnecjofeaaGreatDoor
/- Ba -/
set_option linter.unusedVariables false
namespace Go.Proofs.YtdphpjnecjofeaaGreatDoor
open Go.RowKit

theorem info_rec : (Tryz.prog.info? 50).map (fun i => (i.zero, i.size, i.bytes)) = some (some (.agg #[.int .i64 0, .int .i64 0, .int .i64 0]), 3, 24) := by kernel_rfl

/-! Bytes. -/
def byteV (b : Nat) : Value := .int .u8 (b : Int)
def SmallB (L : List Nat) : Prop := ∀ x ∈ L, x < 256
theorem SmallB.getD {L : List Nat} (h : SmallB L) (k : Nat) : L.getD k 0 < 256 := by
  by_cases hk : k < L.length
  · rw [List.getD_eq_getElem?_getD, List.getElem?_eq_getElem hk]; exact h _ (List.getElem_mem _)
  · rw [List.getD_eq_getElem?_getD, List.getElem?_eq_none (by omega)]; simp
theorem SmallB.drop {L : List Nat} (h : SmallB L) (k : Nat) : SmallB (L.drop k) := fun x hx => h x (List.mem_of_mem_drop hx)
theorem SmallB.take {L : List Nat} (h : SmallB L) (k : Nat) : SmallB (L.take k) := fun x hx => h x (List.mem_of_mem_take hx)
theorem SmallB.append {L M : List Nat} (h : SmallB L) (h' : SmallB M) : SmallB (L ++ M) := fun x hx => (List.mem_append.1 hx).elim (h x) (h' x)

/-- A slice of the bytes L, lying below block B. -/
structure Bt (w : World) (B : Nat) (v : Value) (L : List Nat) : Prop where
  it : ∃ A c, v = .slice A L.length c ∧ L.length ≤ c ∧ (0 < L.length → ∃ b off, A = some ⟨b, off, none⟩ ∧ b < B ∧ ∀ j, j < L.length → w.cell? ⟨b, off + j, none⟩ = some (.int .u8 (L.getD j 0 : Nat)))
  len : L.length ≤ maxLen
  small : SmallB L
theorem Bt.below {w w' : World} {B B' : Nat} {v : Value} {L : List Nat} (h : Bt w B v L) (hb : Below B' w w') (hB : B ≤ B') : Bt w' B v L := by
  obtain ⟨⟨A, c, rfl, hcap, hc⟩, hl, hs⟩ := h
  refine ⟨⟨A, c, rfl, hcap, fun hn => ?_⟩, hl, hs⟩
  obtain ⟨b, off, rfl, hlt, hc⟩ := hc hn
  exact ⟨b, off, rfl, hlt, fun j hj => (hb.cell (p := ⟨b, off + j, none⟩) (by show b < B'; omega)).trans (hc j hj)⟩
theorem Bt.more {w : World} {B B' : Nat} {v : Value} {L : List Nat} (h : Bt w B v L) (hB : B ≤ B') : Bt w B' v L := by
  obtain ⟨⟨A, c, rfl, hcap, hc⟩, hl, hs⟩ := h
  refine ⟨⟨A, c, rfl, hcap, fun hn => ?_⟩, hl, hs⟩
  obtain ⟨b, off, rfl, hlt, hc⟩ := hc hn
  exact ⟨b, off, rfl, by omega, hc⟩
theorem Bt.go {w w' : World} {v : Value} {L : List Nat} (h : Bt w w.heap.size v L) (hb : Below w.heap.size w w') : Bt w' w'.heap.size v L := (h.below hb (Nat.le_refl _)).more hb.size
theorem Bt.cell {w : World} {B : Nat} {A : Option Addr} {n c : Nat} {L : List Nat} (h : Bt w B (.slice A n c) L) {k : Nat} (hk : k < L.length) :
    ∃ b off, A = some ⟨b, off, none⟩ ∧ b < B ∧ w.cell? ⟨b, off + k, none⟩ = some (.int .u8 (L.getD k 0 : Nat)) := by
  obtain ⟨⟨A', c', hv, hcap, hc⟩, hl, hs⟩ := h
  injection hv with h1 _ _
  subst h1
  obtain ⟨b, off, e, hlt, hc⟩ := hc (by omega)
  exact ⟨b, off, e, hlt, hc k hk⟩
theorem getD_drop (L : List Nat) (k j : Nat) : (L.drop k).getD j 0 = L.getD (k + j) 0 := by simp [List.getD]
theorem Bt.drop {w : World} {B : Nat} {A : Option Addr} {n c : Nat} {L : List Nat} (h : Bt w B (.slice A n c) L) {k : Nat} (hk : k ≤ L.length) :
    Bt w B (.slice (if c = k then A else A.map (·.add k)) (n - k) (c - k)) (L.drop k) := by
  obtain ⟨⟨A', c1, hv, hcap, hc⟩, hl, hs⟩ := h
  injection hv with h1 h2 h3
  subst h1 h2 h3
  refine ⟨⟨_, c - k, by rw [List.length_drop], by rw [List.length_drop]; omega, fun hn => ?_⟩, by rw [List.length_drop]; omega, hs.drop k⟩
  rw [List.length_drop] at hn
  obtain ⟨b, off, rfl, hlt, hc⟩ := hc (by omega)
  rw [if_neg (by omega)]
  have ha : (⟨b, off, none⟩ : Addr).add k = ⟨b, off + k, none⟩ := by unfold Addr.add; split <;> simp_all
  refine ⟨b, off + k, by simp [ha], hlt, fun j hj => ?_⟩
  rw [List.length_drop] at hj
  rw [getD_drop, Nat.add_assoc]
  exact hc (k + j) (by omega)
theorem Bt.nil (w : World) (B : Nat) (A : Option Addr) (c : Nat) : Bt w B (.slice A 0 c) [] := ⟨⟨A, c, rfl, Nat.zero_le _, fun h => absurd h (Nat.lt_irrefl _)⟩, Nat.zero_le _, fun x hx => by cases hx⟩
theorem Bt.take {w : World} {B : Nat} {A : Option Addr} {n c : Nat} {L : List Nat} (h : Bt w B (.slice A n c) L) {k : Nat} (hk : k ≤ L.length) {c' : Nat} (hc' : k ≤ c') :
    Bt w B (.slice A k c') (L.take k) := by
  obtain ⟨⟨A', c1, hv, hcap, hc⟩, hl, hs⟩ := h
  injection hv with h1 h2 h3
  subst h1
  refine ⟨⟨A, c', by rw [List.length_take, Nat.min_eq_left hk], by rw [List.length_take]; omega, fun hn => ?_⟩, by rw [List.length_take]; omega, hs.take k⟩
  rw [List.length_take] at hn
  obtain ⟨b, off, rfl, hlt, hc⟩ := hc (by omega)
  refine ⟨b, off, rfl, hlt, fun j hj => ?_⟩
  rw [List.length_take] at hj
  have : (L.take k).getD j 0 = L.getD j 0 := by simp [List.getD, show j < k by omega]
  rw [this]
  exact hc j (by omega)

/-- A row of bytes of the call's own. -/
structure OB (w : World) (B : Nat) (v : Value) (L : List Nat) : Prop where
  own : w.ownsRow B 5 1 v L.length (L.map byteV)
  small : SmallB L
theorem OB.below {w w' : World} {B : Nat} {v : Value} {L : List Nat} (h : OB w B v L) (hb : Below w.heap.size w w') : OB w' B v L := ⟨ownsRow_below h.own hb, h.small⟩
theorem OB.base {w : World} {B B' : Nat} {v : Value} {L : List Nat} (h : OB w B v L) (hb : B' ≤ B) : OB w B' v L := ⟨ownsRow_base h.own hb, h.small⟩
theorem OB.lt {w : World} {B : Nat} {v : Value} {L : List Nat} (h : OB w B v L) {r : Nat} (hr : v.ownBlock = some r) : B ≤ r ∧ r < w.heap.size := World.ownsRow.lt h.own r hr
theorem OB.nil_ (w : World) (B : Nat) : OB w B (.slice none 0 0) [] := ⟨World.ownsRow_nil _ _ _ _, fun x hx => by cases hx⟩
theorem OB.len {w : World} {B : Nat} {v : Value} {L : List Nat} (h : OB w B v L) : L.length ≤ maxLen := by
  rcases h.own.2 with ⟨_, h0⟩ | ⟨g, cap, cur, _, _, _, hnc, hcm, _⟩
  · rw [h0]; exact Nat.zero_le _
  · exact Nat.le_trans hnc hcm
theorem OB.empty {w : World} {B : Nat} (hB : B ≤ w.heap.size) : OB (w.alloc (.cells #[] 5)) B (.slice (some ⟨w.heap.size, 0, none⟩) 0 0) [] := by
  have := World.ownsRow_made (base := w.heap.size) (e := 5) (size := 1) w #[] 0 (by simp) (Nat.zero_le _) rfl
  exact ⟨ownsRow_base (by simpa using this) hB, fun x hx => by cases hx⟩
theorem byteV_get {L : List Nat} {j : Nat} (hj : j < L.length) : (L.map byteV)[j]? = some (.int .u8 (L.getD j 0 : Nat)) := by simp [byteV, List.getD, hj]
theorem OB.open_ {w : World} {B : Nat} {v : Value} {L : List Nat} (h : OB w B v L) :
    ∃ A c g, v = .slice A L.length c ∧ L.length ≤ c ∧ (0 < L.length → A = some ⟨g, 0, none⟩) ∧ B ≤ g ∧ (0 < L.length → g < w.heap.size) ∧ (∀ j, j < L.length → w.cell? ⟨g, j, none⟩ = some (.int .u8 (L.getD j 0 : Nat)) ∧ w.frozen? ⟨g, j, none⟩ = false) := by
  rcases h.own.2 with ⟨rfl, h0⟩ | ⟨g, cap, cur, rfl, hb, hh, hnc, _⟩
  · exact ⟨none, 0, B, by rw [h0], by omega, fun h => by omega, Nat.le_refl _, fun h => by omega, fun j hj => by omega⟩
  · refine ⟨_, cap, g, rfl, hnc, fun _ => rfl, hb, fun _ => (Array.getElem?_eq_some_iff.1 hh).1, fun j hj => ⟨?_, frozen_of_row _ _ _ _ _ hh⟩⟩
    have := h.own.cells (g := g) rfl j _ (byteV_get hj)
    rwa [add_zero_block] at this
/-! Records. -/
def flat (l : List RecD) : List Int := l.flatMap fun r => [r.k, r.a, r.b]
theorem flat_cons (r : RecD) (l : List RecD) : flat (r :: l) = r.k :: r.a :: r.b :: flat l := rfl
theorem flat_append (l m : List RecD) : flat (l ++ m) = flat l ++ flat m := List.flatMap_append
theorem flat_length (l : List RecD) : (flat l).length = l.length * 3 := by
  induction l with
  | nil => rfl
  | cons r l ih => rw [flat_cons]; simp [ih]; omega
def recAt (l : List RecD) (i : Nat) : RecD := l.getD i ⟨0, 0, 0⟩
def cellR (l : List RecD) (j : Nat) : Int := (flat l).getD j 0
theorem cellR_at (l : List RecD) (i : Nat) : cellR l (i * 3) = (recAt l i).k ∧ cellR l (i * 3 + 1) = (recAt l i).a ∧ cellR l (i * 3 + 2) = (recAt l i).b := by
  unfold cellR recAt
  induction l generalizing i with
  | nil => simp [flat]
  | cons r l ih =>
    cases i with
    | zero => exact ⟨rfl, rfl, rfl⟩
    | succ i =>
      have := ih i
      rw [flat_cons, show (i + 1) * 3 = i * 3 + 1 + 1 + 1 by omega, show i * 3 + 1 + 1 + 1 + 1 = (i * 3 + 1) + 1 + 1 + 1 by omega, show i * 3 + 1 + 1 + 1 + 2 = (i * 3 + 2) + 1 + 1 + 1 by omega]
      simpa only [List.getD_cons_succ] using this
def recV (r : RecD) : Value := .agg #[.int .i64 r.k, .int .i64 r.a, .int .i64 r.b]
def recVs (l : List RecD) : List Value := (flat l).map (Value.int .i64)
theorem recVs_get {l : List RecD} {j : Nat} (hj : j < l.length * 3) : (recVs l)[j]? = some (.int .i64 (cellR l j)) := by
  have : j < (flat l).length := by rw [flat_length]; exact hj
  simp [recVs, cellR, List.getD, this]
/-- A slice of the records l, lying below block B. -/
structure Rt (w : World) (B : Nat) (v : Value) (l : List RecD) : Prop where
  it : ∃ A c, v = .slice A l.length c ∧ Sl w B 3 A l.length (cellR l)
  len : l.length ≤ maxLen
theorem Rt.below {w w' : World} {B B' : Nat} {v : Value} {l : List RecD} (h : Rt w B v l) (hb : Below B' w w') (hB : B ≤ B') : Rt w' B v l := by
  obtain ⟨⟨A, c, rfl, hc⟩, hl⟩ := h
  exact ⟨⟨A, c, rfl, hc.below hb hB⟩, hl⟩
theorem Rt.more {w : World} {B B' : Nat} {v : Value} {l : List RecD} (h : Rt w B v l) (hB : B ≤ B') : Rt w B' v l := by
  obtain ⟨⟨A, c, rfl, hc⟩, hl⟩ := h
  exact ⟨⟨A, c, rfl, hc.more hB⟩, hl⟩
theorem Rt.go {w w' : World} {v : Value} {l : List RecD} (h : Rt w w.heap.size v l) (hb : Below w.heap.size w w') : Rt w' w'.heap.size v l := (h.below hb (Nat.le_refl _)).more hb.size
theorem Sl.cell3 {w : World} {B n : Nat} {A : Option Addr} {x : Nat → Int} (h : Sl w B 3 A n x) {i : Nat} (hi : i < n) : ∃ b off, A = some ⟨b, off, none⟩ ∧ b < B ∧
    w.cell? ⟨b, off + i * 3, none⟩ = some (.int .i64 (x (i * 3))) ∧ w.cell? ⟨b, off + i * 3 + 1, none⟩ = some (.int .i64 (x (i * 3 + 1))) ∧ w.cell? ⟨b, off + i * 3 + 2, none⟩ = some (.int .i64 (x (i * 3 + 2))) := by
  obtain ⟨b, off, rfl, hb, hc⟩ := h (by omega)
  exact ⟨b, off, rfl, hb, hc _ (by omega), by rw [Nat.add_assoc]; exact hc _ (by omega), by rw [Nat.add_assoc]; exact hc _ (by omega)⟩
theorem Rt.cell {w : World} {B : Nat} {A : Option Addr} {n c : Nat} {l : List RecD} (h : Rt w B (.slice A n c) l) {i : Nat} (hi : i < l.length) : ∃ b off, A = some ⟨b, off, none⟩ ∧ b < B ∧
    w.cell? ⟨b, off + i * 3, none⟩ = some (.int .i64 (recAt l i).k) ∧ w.cell? ⟨b, off + i * 3 + 1, none⟩ = some (.int .i64 (recAt l i).a) ∧ w.cell? ⟨b, off + i * 3 + 2, none⟩ = some (.int .i64 (recAt l i).b) := by
  obtain ⟨⟨A', c', hv, hc⟩, hl⟩ := h
  injection hv with h1 _ _
  subst h1
  obtain ⟨e1, e2, e3⟩ := cellR_at l i
  have := hc.cell3 hi
  rwa [e1, e2, e3] at this
/-- A row of records of the call's own. -/
def OR (w : World) (B : Nat) (v : Value) (l : List RecD) : Prop := w.ownsRow B 50 3 v l.length (recVs l)
theorem OR.below {w w' : World} {B : Nat} {v : Value} {l : List RecD} (h : OR w B v l) (hb : Below w.heap.size w w') : OR w' B v l := ownsRow_below h hb
theorem OR.base {w : World} {B B' : Nat} {v : Value} {l : List RecD} (h : OR w B v l) (hb : B' ≤ B) : OR w B' v l := ownsRow_base h hb
theorem OR.lt {w : World} {B : Nat} {v : Value} {l : List RecD} (h : OR w B v l) {r : Nat} (hr : v.ownBlock = some r) : B ≤ r ∧ r < w.heap.size := World.ownsRow.lt h r hr
theorem OR.nil_ (w : World) (B : Nat) : OR w B (.slice none 0 0) [] := World.ownsRow_nil _ _ _ _
theorem OR.len {w : World} {B : Nat} {v : Value} {l : List RecD} (h : OR w B v l) : l.length ≤ maxLen := by
  rcases h.2 with ⟨_, h0⟩ | ⟨g, cap, cur, _, _, _, hnc, hcm, _⟩
  · rw [h0]; exact Nat.zero_le _
  · exact Nat.le_trans hnc hcm
theorem OR.empty {w : World} {B : Nat} (hB : B ≤ w.heap.size) : OR (w.alloc (.cells #[] 50)) B (.slice (some ⟨w.heap.size, 0, none⟩) 0 0) [] := by
  have := World.ownsRow_made (base := w.heap.size) (e := 50) (size := 3) w #[] 0 (by simp) (Nat.zero_le _) rfl
  exact ownsRow_base (by simpa [recVs, flat] using this) hB
theorem OR.open_ {w : World} {B : Nat} {v : Value} {l : List RecD} (h : OR w B v l) :
    ∃ A c g, v = .slice A l.length c ∧ (0 < l.length → A = some ⟨g, 0, none⟩) ∧ B ≤ g ∧ (0 < l.length → g < w.heap.size) ∧ RowF w g (l.length * 3) (cellR l) := by
  rcases h.2 with ⟨rfl, h0⟩ | ⟨g, cap, cur, rfl, hb, hh, _⟩
  · exact ⟨none, 0, B, by rw [h0], fun h => by omega, Nat.le_refl _, fun h => by omega, fun j hj => by omega⟩
  · refine ⟨_, cap, g, rfl, fun _ => rfl, hb, fun _ => (Array.getElem?_eq_some_iff.1 hh).1, fun j hj => ⟨?_, frozen_of_row _ _ _ _ _ hh⟩⟩
    have := World.ownsRow.cells h (g := g) rfl j _ (recVs_get hj)
    rwa [add_zero_block] at this
theorem OR.rt {w : World} {B : Nat} {v : Value} {l : List RecD} (h : OR w B v l) : Rt w w.heap.size v l := by
  have hl := h.len
  obtain ⟨A, c, g, rfl, hA, hB, hg, hc⟩ := h.open_
  exact ⟨⟨A, c, rfl, fun hn => ⟨g, 0, hA hn, hg hn, fun j hj => by rw [Nat.zero_add]; exact (hc j hj).1⟩⟩, hl⟩
/-- Records out of places. -/
def recsFrom (n : Nat) (x : Nat → Int) : List RecD := (List.range n).map fun i => ⟨x (i * 3), x (i * 3 + 1), x (i * 3 + 2)⟩
theorem recsFrom_length (n : Nat) (x : Nat → Int) : (recsFrom n x).length = n := by simp [recsFrom]
theorem cellR_from {n : Nat} {x : Nat → Int} {j : Nat} (hj : j < n * 3) : cellR (recsFrom n x) j = x j := by
  have hi : j / 3 < n := by omega
  have hr : recAt (recsFrom n x) (j / 3) = ⟨x (j / 3 * 3), x (j / 3 * 3 + 1), x (j / 3 * 3 + 2)⟩ := by simp [recAt, recsFrom, List.getD, hi]
  obtain ⟨e1, e2, e3⟩ := cellR_at (recsFrom n x) (j / 3)
  rw [hr] at e1 e2 e3
  dsimp only at e1 e2 e3
  rcases (by omega : j = j / 3 * 3 ∨ j = j / 3 * 3 + 1 ∨ j = j / 3 * 3 + 2) with e | e | e
  · rw [← e] at e1; exact e1
  · rw [← e] at e2; exact e2
  · rw [← e] at e3; exact e3
end Go.Proofs.YtdphpjnecjofeaaGreatDoor
/- Bb -/
set_option linter.unusedVariables false
namespace Go.Proofs.YtdphpjnecjofeaaGreatDoor
open Go.RowKit

/-- The names of the kinds. -/
def nameOf (i : Nat) : ByteArray := ⟨#[[], [112, 104, 97, 115, 101], [112, 111, 100], [98, 117, 115, 121], [102, 114, 101, 101], [103, 105, 118, 101], [108, 111, 99, 107], [117, 110, 108, 111, 99, 107], [99, 108, 111, 99, 107], [98, 97, 110, 100], [98, 111, 111, 116], [108, 111, 99, 107, 98, 121], [112, 114, 111, 98, 101]].getD i [] |>.toArray⟩
/-- The table of them lies in block 0. -/
structure Names (w : World) : Prop where
  lt : 3 < w.heap.size
  it : ∀ i, i < 13 → w.cell? ⟨3, i, none⟩ = some (.string (nameOf i))
theorem Names.go {w w' : World} (h : Names w) (hb : Below w.heap.size w w') : Names w' :=
  ⟨Nat.lt_of_lt_of_le h.lt hb.size, fun i hi => (hb.cell (p := ⟨3, i, none⟩) h.lt).trans (h.it i hi)⟩
theorem Names.keeps {S : Nat → Prop} {w w' : World} (h : Names w) (hk : Keeps S w w') (hS : ¬ S 3) : Names w' :=
  ⟨Nat.lt_of_lt_of_le h.lt hk.size, fun i hi => (hk.cell (p := ⟨3, i, none⟩) h.lt hS).trans (h.it i hi)⟩

/-- Has it a name? -/
def kindB (k : Int) : Bool := inB k 1 12
def nameStr (k : Int) : ByteArray := if inB k 0 12 then nameOf k.toNat else ⟨#[]⟩
set_option maxHeartbeats 400000 in
theorem kindString_any (k : Int) (w : World) (h : Names w) :
    Calls Tryz.prog 124 #[.int .i64 k] w fun e w' => e = .returned (.string (nameStr k)) ∧ w = w' := by
  have H := Lib.hid h
  clear h
  cases hk : inB k 0 12
  · have HE := Lib.hid (show nameStr k = ⟨#[]⟩ by unfold nameStr; rw [hk]; rfl)
    go_enter Tryz.func124, Tryz.ntmps124
    go_wp2_with (go_at_call 126; refine (isIndex_any _ _ _).mono ?_; rintro e w' ⟨rfl, rfl⟩)
    go_ret
    exact ⟨by rw [HE.out]; rfl, rfl⟩
  · have HE := Lib.hid (show nameStr k = nameOf k.toNat by unfold nameStr; rw [hk]; rfl)
    obtain ⟨h0, h1⟩ := inB_true.1 hk
    obtain ⟨i, rfl⟩ := Int.eq_ofNat_of_zero_le h0
    have hc := H.out.it i (by omega)
    have hlt : i < 13 := by omega
    clear h0 h1
    go_enter Tryz.func124, Tryz.ntmps124
    go_wp2_with (go_at_call 126; refine (isIndex_any _ _ _).mono ?_; rintro e w' ⟨rfl, rfl⟩)
    go_ret
    exact ⟨by rw [HE.out]; simp, rfl⟩
theorem nameStr_empty (k : Int) : (nameStr k).toList.isEmpty = !kindB k := by
  unfold nameStr kindB
  cases hk : inB k 0 12
  · have : inB k 1 12 = false := by
      cases h : inB k 1 12
      · rfl
      · rw [inB_true] at h
        rw [← Bool.not_eq_true, inB_true] at hk
        omega
    rw [this]
    show (⟨#[]⟩ : ByteArray).toList.isEmpty = true
    kernel_rfl
  · obtain ⟨h0, h1⟩ := inB_true.1 hk
    have : k = 0 ∨ k = 1 ∨ k = 2 ∨ k = 3 ∨ k = 4 ∨ k = 5 ∨ k = 6 ∨ k = 7 ∨ k = 8 ∨ k = 9 ∨ k = 10 ∨ k = 11 ∨ k = 12 := by omega
    rcases this with rfl | rfl | rfl | rfl | rfl | rfl | rfl | rfl | rfl | rfl | rfl | rfl | rfl <;> decide +kernel

set_option maxHeartbeats 400000 in
theorem recOk_any (r : RecD) (w : World) (h : Names w) :
    Calls Tryz.prog 72 #[recV r] w fun e w' => e = .returned (.bool (recOkB r)) ∧ Below w.heap.size w w' := by
  obtain ⟨k, a, b⟩ := r
  unfold recV
  dsimp only
  have H := Lib.hid h
  clear h
  have N1 : Hid (Names (w.alloc (.cells #[.int .i64 k, .int .i64 a, .int .i64 b] 50))) := Lib.hid (H.out.go ((Below.refl _ _).alloc (Nat.le_refl _) _))
  have HS := nameStr_empty k
  generalize hs : nameStr k = s at HS
  have HSK := Lib.hid hs
  clear hs
  cases h1 : kindB k
  · have HE := Lib.hid (show recOkB ⟨k, a, b⟩ = false by have h1 : inB k 1 12 = false := h1; simp [recOkB, h1])
    rw [h1] at HS
    clear h1
    have HL : s.toList = [] := by simpa using HS
    clear HS
    go_enter Tryz.func72, Tryz.ntmps72
    go_wp2_with (go_at_call 124; refine (kindString_any _ _ N1.out).mono ?_; rintro e w' ⟨rfl, rfl⟩; rw [HSK.out])
    go_ret
    exact ⟨by rw [HE.out]; rfl, (Below.refl _ _).alloc (Nat.le_refl _) _⟩
  · rw [h1] at HS
    have HL : ¬ s.toList = [] := by simpa using HS
    have HT : (!s.toList.isEmpty) = true := by rw [HS]; rfl
    clear HS
    cases h2 : inB a 0 1000000
    · have HE := Lib.hid (show recOkB ⟨k, a, b⟩ = false by have h1 : inB k 1 12 = true := h1; simp [recOkB, h1, h2])
      clear h1
      go_enter Tryz.func72, Tryz.ntmps72
      go_wp2_with (first | (go_at_call 124; refine (kindString_any _ _ N1.out).mono ?_; rintro e w' ⟨rfl, rfl⟩; rw [HSK.out]) | (go_at_call 125; refine (within_any _ _ _ _).mono ?_; rintro e w' ⟨rfl, rfl⟩))
      go_ret
      exact ⟨by rw [HE.out]; rfl, (Below.refl _ _).alloc (Nat.le_refl _) _⟩
    · have HE := Lib.hid (show recOkB ⟨k, a, b⟩ = inB b 0 1000000 by have h1 : inB k 1 12 = true := h1; simp [recOkB, h1, h2])
      clear h1
      go_enter Tryz.func72, Tryz.ntmps72
      go_wp2_with (first | (go_at_call 124; refine (kindString_any _ _ N1.out).mono ?_; rintro e w' ⟨rfl, rfl⟩; rw [HSK.out]) | (go_at_call 125; refine (within_any _ _ _ _).mono ?_; rintro e w' ⟨rfl, rfl⟩))
      go_ret
      exact ⟨by rw [HE.out]; rfl, (Below.refl _ _).alloc (Nat.le_refl _) _⟩

set_option maxHeartbeats 400000 in
theorem field_any (x : Int) (w : World) :
    Calls Tryz.prog 94 #[.int .i64 x] w fun e w' => e = .returned (.bool (inB x 0 1000000)) ∧ w = w' := by
  go_enter Tryz.func94, Tryz.ntmps94
  go_wp2_with (go_at_call 93; refine (in_any _ _ _ _).mono ?_; rintro e w' ⟨rfl, rfl⟩)
  go_ret
  exact ⟨rfl, rfl⟩
set_option maxHeartbeats 400000 in
theorem specRecOk_any (r : RecD) (w : World) :
    Calls Tryz.prog 39 #[recV r] w fun e w' => e = .returned (.bool (recOkB r)) ∧ Below w.heap.size w w' := by
  obtain ⟨k, a, b⟩ := r
  unfold recV
  dsimp only
  cases h1 : inB k 1 12
  · have HE := Lib.hid (show recOkB ⟨k, a, b⟩ = false by simp [recOkB, h1])
    go_enter Tryz.func39, Tryz.ntmps39
    go_wp2_with (go_at_call 93; refine (in_any _ _ _ _).mono ?_; rintro e w' ⟨rfl, rfl⟩)
    go_ret
    exact ⟨by rw [HE.out]; rfl, (Below.refl _ _).alloc (Nat.le_refl _) _⟩
  · cases h2 : inB a 0 1000000
    · have HE := Lib.hid (show recOkB ⟨k, a, b⟩ = false by simp [recOkB, h1, h2])
      go_enter Tryz.func39, Tryz.ntmps39
      go_wp2_with (first | (go_at_call 93; refine (in_any _ _ _ _).mono ?_; rintro e w' ⟨rfl, rfl⟩) | (go_at_call 94; refine (field_any _ _).mono ?_; rintro e w' ⟨rfl, rfl⟩))
      go_ret
      exact ⟨by rw [HE.out]; rfl, (Below.refl _ _).alloc (Nat.le_refl _) _⟩
    · have HE := Lib.hid (show recOkB ⟨k, a, b⟩ = inB b 0 1000000 by simp [recOkB, h1, h2])
      go_enter Tryz.func39, Tryz.ntmps39
      go_wp2_with (first | (go_at_call 93; refine (in_any _ _ _ _).mono ?_; rintro e w' ⟨rfl, rfl⟩) | (go_at_call 94; refine (field_any _ _).mono ?_; rintro e w' ⟨rfl, rfl⟩))
      go_ret
      exact ⟨by rw [HE.out]; rfl, (Below.refl _ _).alloc (Nat.le_refl _) _⟩
end Go.Proofs.YtdphpjnecjofeaaGreatDoor
/- Bh -/
set_option linter.unusedVariables false
namespace Go.Proofs.YtdphpjnecjofeaaGreatDoor
open Go.RowKit

/-- Block g holds bytes, x 0, x 1, .. x (N-1), all writable. -/
def RowU (w : World) (g N : Nat) (x : Nat → Int) : Prop := ∀ j, j < N → w.cell? ⟨g, j, none⟩ = some (.int .u8 (x j)) ∧ w.frozen? ⟨g, j, none⟩ = false
theorem RowU.set {w : World} {g N : Nat} {x : Nat → Int} (h : RowU w g N x) {i : Nat} (v : Int) : RowU (w.setCell ⟨g, i, none⟩ (.int .u8 v)) g N (fun j => if j = i then v else x j) := fun j hj => by
  refine ⟨?_, by rw [World.frozen?_setCell]; exact (h j hj).2⟩
  by_cases e : j = i
  · subst e
    show _ = some (Value.int _ (if j = j then v else x j))
    rw [if_pos rfl]
    exact World.cell?_setCell_same _ _ _ (h j hj).1
  · show _ = some (Value.int _ (if j = i then v else x j))
    rw [if_neg e, World.cell?_setCell_other _ _ _ _ (fun he => e (by injection he with _ h2 _; exact h2.symm))]
    exact (h j hj).1
theorem RowU.below {w w' : World} {B g N : Nat} {x : Nat → Int} (h : RowU w g N x) (hb : Below B w w') (hg : g < B) : RowU w' g N x := fun j hj =>
  ⟨(hb.cell (p := ⟨g, j, none⟩) hg).trans (h j hj).1, (hb.frozen (p := ⟨g, j, none⟩) hg).trans (h j hj).2⟩
theorem RowU.congr {w : World} {g N : Nat} {x y : Nat → Int} (h : RowU w g N x) (e : ∀ j, j < N → x j = y j) : RowU w g N y := fun j hj => by rw [← e j hj]; exact h j hj
theorem RowU.go {w w' : World} {g n : Nat} {x : Nat → Int} (R : RowU w g n x) (hg : 0 < n → g < w.heap.size) (hb : Below w.heap.size w w') : RowU w' g n x := fun j hj => R.below hb (hg (by omega)) j hj

theorem szRecS_any (A : Option Addr) (n c : Nat) (left : Int) (w : World) (hn : n ≤ maxLen) (h0 : 0 ≤ left) (h1 : left ≤ 1048576) :
    Calls Tryz.prog 19 #[.slice A n c, .int .i64 left] w fun e w' => e = .returned (.int .i64 (szI left n)) ∧ w = w' := by
  unfold maxLen at hn
  go_enter Tryz.func19, Tryz.ntmps19
  go_wp2
  · go_ret
    exact ⟨by rw [szI_neg (by omega)]; rfl, rfl⟩
  · go_ret
    exact ⟨by rw [szI_pos (by omega)]; rfl, rfl⟩
set_option maxHeartbeats 400000 in
theorem toRec_any (a b c : Int) (w : World) :
    Calls Tryz.prog 12 #[.agg #[.int .i64 a, .int .i64 b, .int .i64 c]] w fun e w' =>
      e = .returned (.agg #[.int .i64 a, .int .i64 b, .int .i64 c]) ∧ Below w.heap.size w w' := by
  go_enter Tryz.func12, Tryz.ntmps12
  go_wp2
  exact bodyPost_ret (v := .agg #[.int .i64 a, .int .i64 b, .int .i64 c]) (by simp [results, Tryz.results12, go_sem]) rfl ⟨rfl, (((Below.refl _ _).alloc (Nat.le_refl _) _).alloc (by simp) _).alloc (by simp; omega) _⟩
set_option maxHeartbeats 400000 in
theorem eqRec_same (a b c : Int) (w : World) :
    Calls Tryz.prog 74 #[.agg #[.int .i64 a, .int .i64 b, .int .i64 c], .agg #[.int .i64 a, .int .i64 b, .int .i64 c]] w fun e w' =>
      e = .returned (.bool true) ∧ Below w.heap.size w w' := by
  go_enter Tryz.func74, Tryz.ntmps74
  go_wp2
  go_ret
  exact ⟨rfl, ((Below.refl _ _).alloc (Nat.le_refl _) _).alloc (by simp) _⟩

set_option maxHeartbeats 1000000 in
theorem toRecS_any (A : Option Addr) (n c : Nat) (x : Nat → Int) (w : World) (s : Sl w w.heap.size 3 A n x) (hn : n ≤ 1048576) :
    Calls Tryz.prog 21 #[.slice A n c] w (Made w (n * 3) n x) := by
  have S := Lib.hid s
  clear s
  obtain ⟨i0, hi, hz0, hz1, hz2⟩ := info_parts info_rec
  have HN := Lib.hid hn
  have hn' : n ≤ 2 ^ 63 - 1 := by omega
  clear hn
  go_enter Tryz.func21, Tryz.ntmps21
  go_wp2_with (at_make; refine wpList_make_full _ rfl _ _ 60 rfl w.heap.size 50 i0 (.agg #[.int .i64 0, .int .i64 0, .int .i64 0]) 3 Tryz.underlying60 hi hz0 hz1 _ _ _ _ n rfl rfl rfl rfl ?b2 ?b3 (Nat.le_refl _) ?_)
  case b2 => have := HN.out; rw [hz2]; omega
  case b3 => have := HN.out; unfold maxLen; omega
  intro w1 hown hgrow
  have X : Copying w w1 (n * 3) 0 x := ⟨(Below.refl _ _).grown hgrow (Nat.le_refl _) (fun k hk => by cases hk), (hown.lt _ rfl).2, _, made_row (by omega) rfl hown, fun j hj => absurd hj (by omega)⟩
  clear hown hgrow hz0 hz1 hz2 hi
  go_wp2
  go_loopw [4] (fun i wr => ∃ k : Nat, k ≤ n ∧ i = .int .i64 k ∧ Copying w wr (n * 3) (k * 3) x) (fun i _ => n - (intOf i).toNat)
  case atStart => exact ⟨0, Nat.zero_le _, rfl, by simpa using X⟩
  case round =>
    clear X
    obtain ⟨k, hk, rfl, X⟩ := hrel
    by_cases hlt : k < n
    · obtain ⟨b, off, rfl, hb, q0, q1, q2⟩ := ((S.out.below X.K (Nat.le_refl _)).more X.K.size).cell3 hlt
      go_wp2_with (go_at_call 12; refine (toRec_any _ _ _ _).mono ?_; rintro e w2 ⟨rfl, hb2⟩; have X2 := X.step hb2; obtain ⟨v0, t0, f0⟩ := X2.at_ (j := k * 3) (by omega); obtain ⟨v1, t1, f1⟩ := X2.at_ (j := k * 3 + 1) (by omega); obtain ⟨v2, t2, f2⟩ := X2.at_ (j := k * 3 + 2) (by omega); clear hb2)
      refine ⟨⟨k + 1, by omega, by go_num, ?_⟩, by simp [intOf]; omega⟩
      have e : (k + 1) * 3 = k * 3 + 1 + 1 + 1 := by omega
      rw [e]
      exact X2.set.set.set
    · obtain rfl : k = n := by omega
      go_wp2
      go_ret
      exact X.made
theorem Made.rt {w w' : World} {n : Nat} {x : Nat → Int} {e : Ending} (h : Made w (n * 3) n x e w') (hn : n ≤ maxLen) : ∃ g, e = .returned (.slice (some ⟨g, 0, none⟩) n n) ∧ w.heap.size ≤ g ∧ g < w'.heap.size ∧ RowF w' g (n * 3) x ∧
    Rt w' w'.heap.size (.slice (some ⟨g, 0, none⟩) n n) (recsFrom n x) ∧ Below w.heap.size w w' := by
  obtain ⟨g, he, hg, hlt, R, K⟩ := h
  refine ⟨g, he, hg, hlt, R, ⟨⟨some ⟨g, 0, none⟩, n, by rw [recsFrom_length], ?_⟩, by rw [recsFrom_length]; exact hn⟩, K⟩
  rw [recsFrom_length]
  exact fun _ => ⟨g, 0, rfl, hlt, fun j hj => by rw [Nat.zero_add, cellR_from hj]; exact (R j hj).1⟩

set_option maxHeartbeats 1000000 in
theorem markRecS_any (A : Option Addr) (n c g : Nat) (k0 : Int) (x : Nat → Int) (w : World) (hA : 0 < n → A = some ⟨g, 0, none⟩) (R : RowF w g (n * 3) x) (hn : n ≤ 1048576) (h0 : 0 ≤ k0) (h1 : k0 ≤ 8388608) :
    Calls Tryz.prog 24 #[.slice A n c, .int .i64 k0] w fun e w' => e = .returned (.int .i64 (k0 + 3 * n)) ∧ RowF w' g (n * 3) (fun j => k0 + j) ∧ Keeps (· = g) w w' := by
  have HN := Lib.hid hn
  have hn' : n ≤ 2 ^ 63 - 1 := by omega
  have HA := Lib.hid hA
  clear hn hA
  go_enter Tryz.func24, Tryz.ntmps24
  go_wp2
  go_loopw [1, 5] (fun kk i wr => ∃ m : Nat, m ≤ n ∧ i = .int .i64 m ∧ kk = .int .i64 (k0 + 3 * m) ∧ RowF wr g (n * 3) (fun j => if j < m * 3 then k0 + j else x j) ∧ Keeps (· = g) w wr) (fun _ i _ => n - (intOf i).toNat)
  case atStart => exact ⟨0, Nat.zero_le _, rfl, by simp, R.congr fun j _ => by simp, Keeps.refl _ _⟩
  case round =>
    obtain ⟨m, hm, rfl, rfl, Y, K⟩ := hrel
    by_cases hlt : m < n
    · obtain rfl := HA.out (by omega)
      obtain ⟨t0, f0⟩ := Y (m * 3) (by omega)
      obtain ⟨t1, f1⟩ := Y (m * 3 + 1) (by omega)
      obtain ⟨t2, f2⟩ := Y (m * 3 + 2) (by omega)
      have hb := HN.out
      have HY := Lib.hid Y
      clear Y
      go_wp2
      refine ⟨⟨m + 1, by omega, by go_num, by congr 1; omega, ?_, ((K.set rfl _).set rfl _).set rfl _⟩, by simp [intOf]; omega⟩
      refine (((HY.out.set (i := m * 3) (k0 + 3 * m)).set (i := m * 3 + 1) (k0 + 3 * m + 1)).set (i := m * 3 + 2) (k0 + 3 * m + 1 + 1)).congr fun j hj => ?_
      by_cases e2 : j = m * 3 + 2
      · subst e2; simp; omega
      · by_cases e1 : j = m * 3 + 1
        · subst e1; simp; omega
        · by_cases e0 : j = m * 3
          · subst e0; simp; omega
          · simp only [if_neg e2, if_neg e1, if_neg e0]
            by_cases e' : j < m * 3
            · rw [if_pos e', if_pos (by omega)]
            · rw [if_neg e', if_neg (by omega)]
    · obtain rfl : m = n := by omega
      go_wp2
      go_ret
      exact ⟨rfl, Y.congr fun j hj => if_pos hj, K⟩
set_option maxHeartbeats 1000000 in
theorem heldRecS_any (A : Option Addr) (n c g : Nat) (k0 : Int) (w : World) (hA : 0 < n → A = some ⟨g, 0, none⟩) (R : RowF w g (n * 3) (fun j => k0 + j)) (hn : n ≤ 1048576) (h0 : 0 ≤ k0) (h1 : k0 ≤ 8388608) :
    Calls Tryz.prog 27 #[.slice A n c, .int .i64 k0] w fun e w' => e = .returned (.int .i64 (k0 + 3 * n)) ∧ Below w.heap.size w w' := by
  have HN := Lib.hid hn
  have hn' : n ≤ 2 ^ 63 - 1 := by omega
  have HA := Lib.hid hA
  clear hn hA
  go_enter Tryz.func27, Tryz.ntmps27
  go_wp2
  go_loopw [1, 5] (fun kk i wr => ∃ m : Nat, m ≤ n ∧ i = .int .i64 m ∧ kk = .int .i64 (k0 + 3 * m) ∧ Below w.heap.size w wr ∧ RowF wr g (n * 3) (fun j => k0 + j)) (fun _ i _ => n - (intOf i).toNat)
  case atStart => exact ⟨0, Nat.zero_le _, rfl, by simp, Below.refl _ _, R⟩
  case round =>
    obtain ⟨m, hm, rfl, rfl, K, Y⟩ := hrel
    by_cases hlt : m < n
    · obtain rfl := HA.out (by omega)
      have t0 : wr.cell? ⟨g, m * 3, none⟩ = some (.int .i64 (k0 + 3 * m)) := (Y (m * 3) (by omega)).1.trans (by show some (Value.int .i64 (k0 + ((m * 3 : Nat) : Int))) = _; congr 2; omega)
      have t1 : wr.cell? ⟨g, m * 3 + 1, none⟩ = some (.int .i64 (k0 + 3 * m + 1)) := (Y (m * 3 + 1) (by omega)).1.trans (by show some (Value.int .i64 (k0 + ((m * 3 + 1 : Nat) : Int))) = _; congr 2; omega)
      have t2 : wr.cell? ⟨g, m * 3 + 2, none⟩ = some (.int .i64 (k0 + 3 * m + 1 + 1)) := (Y (m * 3 + 2) (by omega)).1.trans (by show some (Value.int .i64 (k0 + ((m * 3 + 2 : Nat) : Int))) = _; congr 2; omega)
      have hb := HN.out
      have HY := Lib.hid Y
      clear Y
      go_wp2
      exact ⟨⟨m + 1, by omega, by go_num, by congr 1; omega, K, HY.out⟩, by simp [intOf]; omega⟩
    · obtain rfl : m = n := by omega
      go_wp2
      go_ret
      exact ⟨rfl, K⟩
set_option maxRecDepth 100000 in
set_option maxHeartbeats 1000000 in
theorem eqRecS_same (v v' : Value) (l : List RecD) (w : World) (h : Rt w w.heap.size v l) (h' : Rt w w.heap.size v' l) :
    Calls Tryz.prog 23 #[v, v'] w fun e w' => e = .returned (.bool true) ∧ Below w.heap.size w w' := by
  have H := Lib.hid h
  have H' := Lib.hid h'
  obtain ⟨⟨A, c, rfl, -⟩, hl⟩ := h
  obtain ⟨⟨A', c', rfl, -⟩, -⟩ := h'
  have hl' : l.length ≤ 2 ^ 63 - 1 := by unfold maxLen at hl; omega
  clear hl
  generalize hq : l.length = n at *
  have HQ := Lib.hid hq
  clear hq
  go_enter Tryz.func23, Tryz.ntmps23
  go_wp2
  go_loopw [5] (fun i wr => ∃ k : Nat, k ≤ n ∧ i = .int .i64 k ∧ Below w.heap.size w wr) (fun i _ => n - (intOf i).toNat)
  case atStart => exact ⟨0, Nat.zero_le _, rfl, Below.refl _ _⟩
  case round =>
    obtain ⟨k, hk, rfl, K⟩ := hrel
    by_cases hlt : k < n
    · obtain ⟨b, off, rfl, hb, q0, q1, q2⟩ := (H.out.below K (Nat.le_refl _)).cell (i := k) (by rw [HQ.out]; exact hlt)
      obtain ⟨b', off', rfl, hb', r0, r1, r2⟩ := (H'.out.below K (Nat.le_refl _)).cell (i := k) (by rw [HQ.out]; exact hlt)
      generalize recAt l k = r at *
      obtain ⟨rk, ra, rb⟩ := r
      dsimp only at q0 q1 q2 r0 r1 r2
      have S0 : (wr.cell? ⟨b, off + k * 3, none⟩ = some (.int .i64 rk) ∧ wr.cell? ⟨b, off + k * 3 + 1, none⟩ = some (.int .i64 ra) ∧ wr.cell? ⟨b, off + k * 3 + 2, none⟩ = some (.int .i64 rb)) ∧
        (wr.cell? ⟨b', off' + k * 3, none⟩ = some (.int .i64 rk) ∧ wr.cell? ⟨b', off' + k * 3 + 1, none⟩ = some (.int .i64 ra) ∧ wr.cell? ⟨b', off' + k * 3 + 2, none⟩ = some (.int .i64 rb)) ∧ Below w.heap.size w wr := ⟨⟨q0, q1, q2⟩, ⟨r0, r1, r2⟩, K⟩
      clear q0 q1 q2 r0 r1 r2
      go_wp2_with fail
      go_region_held3 (fun w' => (w'.cell? ⟨b, off + k * 3, none⟩ = some (.int .i64 rk) ∧ w'.cell? ⟨b, off + k * 3 + 1, none⟩ = some (.int .i64 ra) ∧ w'.cell? ⟨b, off + k * 3 + 2, none⟩ = some (.int .i64 rb)) ∧
        (w'.cell? ⟨b', off' + k * 3, none⟩ = some (.int .i64 rk) ∧ w'.cell? ⟨b', off' + k * 3 + 1, none⟩ = some (.int .i64 ra) ∧ w'.cell? ⟨b', off' + k * 3 + 2, none⟩ = some (.int .i64 rb)) ∧ Below w.heap.size w w')
        (first | exact S0 | exact S1 | exact ⟨S0.1, S0.2.1, S0.2.2.drew⟩)
        (first
          | (go_at_call 74
             refine (eqRec_same rk ra rb _).mono ?_
             rintro e w2 ⟨rfl, hb2⟩
             have hb3 := hb2.mono K.size
             have S1 : (w2.cell? ⟨b, off + k * 3, none⟩ = some (.int .i64 rk) ∧ w2.cell? ⟨b, off + k * 3 + 1, none⟩ = some (.int .i64 ra) ∧ w2.cell? ⟨b, off + k * 3 + 2, none⟩ = some (.int .i64 rb)) ∧
               (w2.cell? ⟨b', off' + k * 3, none⟩ = some (.int .i64 rk) ∧ w2.cell? ⟨b', off' + k * 3 + 1, none⟩ = some (.int .i64 ra) ∧ w2.cell? ⟨b', off' + k * 3 + 2, none⟩ = some (.int .i64 rb)) ∧ Below w.heap.size w w2 :=
               ⟨⟨(hb3.cell (p := ⟨b, off + k * 3, none⟩) hb).trans S0.1.1, (hb3.cell (p := ⟨b, off + k * 3 + 1, none⟩) hb).trans S0.1.2.1, (hb3.cell (p := ⟨b, off + k * 3 + 2, none⟩) hb).trans S0.1.2.2⟩,
                ⟨(hb3.cell (p := ⟨b', off' + k * 3, none⟩) hb').trans S0.2.1.1, (hb3.cell (p := ⟨b', off' + k * 3 + 1, none⟩) hb').trans S0.2.1.2.1, (hb3.cell (p := ⟨b', off' + k * 3 + 2, none⟩) hb').trans S0.2.1.2.2⟩, K.drew.trans hb3⟩))
      have K2 := S1.2.2
      clear S0 S1
      go_wp2
      exact ⟨⟨k + 1, by omega, by go_num, K2⟩, by simp [intOf]; omega⟩
    · obtain rfl : k = n := by omega
      go_wp2
      go_ret
      exact ⟨rfl, K⟩

end Go.Proofs.YtdphpjnecjofeaaGreatDoor
