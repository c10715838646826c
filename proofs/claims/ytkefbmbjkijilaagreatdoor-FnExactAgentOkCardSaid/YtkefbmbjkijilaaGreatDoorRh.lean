/-
  An agent as it comes in.
-/
import Derived.Test.YtkefbmbjkijilaaGreatDoorRp
import Derived.Test.YtkefbmbjkijilaaGreatDoorMZ19
set_option linter.unusedVariables false
namespace Go.Proofs.YtkefbmbjkijilaaGreatDoor
open Go.ChangeShapes Go.WideShapes Go.ChangeAt Go.RowKit Go.Deep

theorem fields_agent : ∃ f0 f1 f2, Tryz.prog.underlying 35 = some (.struct #[f0, f1, f2]) ∧ f0.type = 27 ∧ f1.type = 32 ∧ f2.type = 33 ∧ f0.offset = 0 ∧ f1.offset = 7 ∧ f2.offset = 19 ∧ Tryz.prog.cellsOf 35 = 20 ∧
    Tryz.prog.cellsOf 27 = 7 ∧ Tryz.prog.cellsOf 32 = 12 ∧ Tryz.prog.cellsOf 33 = 1 :=
  ⟨_, _, _, Tryz.underlying35, by kernel_rfl, by kernel_rfl, by kernel_rfl, by kernel_rfl, by kernel_rfl, by kernel_rfl, by kernel_rfl, by kernel_rfl, by kernel_rfl, by kernel_rfl⟩
theorem cells20 {cs : Array Value} (h : cs.size = 20) : ∃ a0 a1 a2 a3 a4 a5 a6 a7 a8 a9 a10 a11 a12 a13 a14 a15 a16 a17 a18 a19, cs = #[a0, a1, a2, a3, a4, a5, a6, a7, a8, a9, a10, a11, a12, a13, a14, a15, a16, a17, a18, a19] := by
  refine ⟨cs[0], cs[1], cs[2], cs[3], cs[4], cs[5], cs[6], cs[7], cs[8], cs[9], cs[10], cs[11], cs[12], cs[13], cs[14], cs[15], cs[16], cs[17], cs[18], cs[19], ?_⟩
  apply Array.ext (by simp [h])
  intro i hi _
  match i, hi with
  | 0, _ => rfl
  | 1, _ => rfl
  | 2, _ => rfl
  | 3, _ => rfl
  | 4, _ => rfl
  | 5, _ => rfl
  | 6, _ => rfl
  | 7, _ => rfl
  | 8, _ => rfl
  | 9, _ => rfl
  | 10, _ => rfl
  | 11, _ => rfl
  | 12, _ => rfl
  | 13, _ => rfl
  | 14, _ => rfl
  | 15, _ => rfl
  | 16, _ => rfl
  | 17, _ => rfl
  | 18, _ => rfl
  | 19, _ => rfl
  | k + 20, hi => omega
/-- A struct's part, each cell of it as that of the whole. -/
theorem okWide_part {P : Program} {W : World} {r : Reach} {b0 : Nat} {t t' : TypeId} {fs : Array Field} {ts ts' : List TypeId} {cs : Array Value} {off : Nat} (hu : P.underlying t' = some (.struct fs)) (hA : P.cellTypes P.depth t = some ts) (hB : P.cellTypes P.depth t' = some ts')
    (hC : P.cellsOf t' = ts'.length) (hn : ts.length = cs.size) (hp : (ts.drop off).take ts'.length = ts') (h0 : 0 < ts'.length) (h : Row.okWide P W r b0 t cs) : Value.okWide P W r b0 t' (.agg ((cs.toList.drop off).take ts'.length).toArray) := by
  obtain ⟨us, hus, -, hat⟩ := h
  rw [hA] at hus
  cases hus
  have hlen : ((cs.toList.drop off).take ts'.length).length = ts'.length := by
    have := congrArg List.length hp
    rw [List.length_take, List.length_drop] at this
    have hcl : cs.toList.length = cs.size := Array.length_toList
    rw [List.length_take, List.length_drop, hcl, ← hn]
    exact this
  unfold Value.okWide
  rw [hu]
  refine ⟨_, rfl, by rw [List.size_toArray, hlen, hC], ts', hB, ⟨1, by rw [List.size_toArray, hlen, Nat.one_mul]⟩, fun i v hi => ?_⟩
  rw [List.getElem?_toArray] at hi
  have hil : i < ts'.length := by
    have := (List.getElem?_eq_some_iff.1 hi).1
    omega
  rw [List.getElem?_take_of_lt hil, List.getElem?_drop, Array.getElem?_toList] at hi
  have hlt : off + i < cs.size := (Array.getElem?_eq_some_iff.1 hi).1
  obtain ⟨u, hu', hok⟩ := hat _ v hi
  rw [Nat.mod_eq_of_lt (by omega)] at hu'
  refine ⟨u, ?_, hok⟩
  rw [Nat.mod_eq_of_lt hil, ← hp, List.getElem?_take_of_lt hil, List.getElem?_drop]
  exact hu'
set_option maxRecDepth 100000 in
theorem open_ag {H : Type} {enc : TypeId × Value → H} {W : World} {spare : Nat → Bool} {held : Bool} {r : Reach} {b0 : Nat} {v : Value} {d : DataW H} {p : List MemPlace}
    (hv : Value.okWide Tryz.prog W r b0 35 v) (h : DataW.Trod enc Tryz.prog W 0 spare held 35 v d p) : ∃ D s st, IsAgW W W.heap.size v D s st := by
  obtain ⟨f0, f1, f2, hu, t0, t1, t2, o0, o1, o2, hC, hC0, hC1, hC2⟩ := fields_agent
  obtain ⟨fuel, hf⟩ := h
  have hv' := hv
  unfold Value.okWide at hv'
  rw [hu] at hv'
  obtain ⟨cs, rfl, hsz, hrow⟩ := hv'
  rw [hC] at hsz
  obtain ⟨a0, a1, a2, a3, a4, a5, a6, a7, a8, a9, a10, a11, a12, a13, a14, a15, a16, a17, a18, a19, rfl⟩ := cells20 hsz
  obtain ⟨xs, n, _, hx, _, hlen, hg⟩ := DataW.trod_struct hu hf
  have g0 := hg 0 f0 rfl
  have g1 := hg 1 f1 rfl
  have g2 := hg 2 f2 rfl
  rw [t0, o0, hC0] at g0
  rw [t1, o1, hC1] at g1
  rw [t2, o2, hC2] at g2
  have hok0 : Value.okWide Tryz.prog W r b0 27 (.agg #[a0, a1, a2, a3, a4, a5, a6]) :=
    okWide_part (off := 0) (t := 35) (ts' := [22, 23, 24, 25, 2, 2, 2]) Tryz.underlying27 (ts := [22, 23, 24, 25, 2, 2, 2, 2, 4, 2, 2, 2, 2, 28, 29, 30, 23, 2, 2, 33]) (by kernel_rfl) (by kernel_rfl) (by kernel_rfl) (by rw [hsz]; rfl) rfl (by decide) hrow
  have hok1 : Value.okWide Tryz.prog W r b0 32 (.agg #[a7, a8, a9, a10, a11, a12, a13, a14, a15, a16, a17, a18]) :=
    okWide_part (off := 7) (t := 35) (ts' := [2, 4, 2, 2, 2, 2, 28, 29, 30, 23, 2, 2]) Tryz.underlying32 (ts := [22, 23, 24, 25, 2, 2, 2, 2, 4, 2, 2, 2, 2, 28, 29, 30, 23, 2, 2, 33]) (by kernel_rfl) (by kernel_rfl) (by kernel_rfl) (by rw [hsz]; rfl) rfl (by decide) hrow
  have hok2 : Value.okWide Tryz.prog W r b0 33 a19 := by
    obtain ⟨us, hus, -, hat⟩ := hrow
    obtain ⟨u, hu', hok⟩ := hat 19 a19 rfl
    have hts : Tryz.prog.cellTypes Tryz.prog.depth 35 = some [22, 23, 24, 25, 2, 2, 2, 2, 4, 2, 2, 2, 2, 28, 29, 30, 23, 2, 2, 33] := by kernel_rfl
    rw [hts] at hus
    cases hus
    cases hu'
    unfold Value.okWide
    rw [Tryz.underlying33]
    exact hok
  have hl3 : xs.length = 3 := by simpa using hlen
  rw [List.getElem?_eq_getElem (by omega)] at g0 g1 g2
  obtain ⟨y0, hy0⟩ : ∃ y, y = xs[0]'(by omega) := ⟨_, rfl⟩
  obtain ⟨y1, hy1⟩ : ∃ y, y = xs[1]'(by omega) := ⟨_, rfl⟩
  obtain ⟨y2, hy2⟩ : ∃ y, y = xs[2]'(by omega) := ⟨_, rfl⟩
  rw [← hy0] at g0
  rw [← hy1] at g1
  rw [← hy2] at g2
  obtain ⟨D, hD⟩ := open_plan (enc := enc) (spare := spare) (held := held) (d := y0.1) (p := y0.2) hok0 ⟨n, g0⟩
  obtain ⟨s, hS⟩ := open_state (enc := enc) (spare := spare) (held := held) (d := y1.1) (p := y1.2) hok1 ⟨n, g1⟩
  obtain ⟨qa, ql, qc, rfl⟩ := okWide_slice Tryz.underlying33 hok2
  obtain ⟨st, hB⟩ := open_bt (enc := enc) (spare := spare) (held := held) (d := y2.1) (p := y2.2) hok2 ⟨n, g2⟩
  clear g0 g1 g2 hok0 hok1 hok2 hg hrow hv hf
  have hD' := hD
  have hS' := hS
  obtain ⟨⟨A0, A1, A2, A3, c0, c1, c2, c3, e0, -⟩, -⟩ := hD'
  obtain ⟨⟨E0, E1, E2, E3, k0, k1, k2, k3, e1, -⟩, -⟩ := hS'
  injection e0 with e0
  injection e0 with e0
  simp only [List.cons.injEq, and_true] at e0
  injection e1 with e1
  injection e1 with e1
  simp only [List.cons.injEq, and_true] at e1
  obtain ⟨rfl, rfl, rfl, rfl, rfl, rfl, rfl⟩ := e0
  obtain ⟨rfl, rfl, rfl, rfl, rfl, rfl, rfl, rfl, rfl, rfl, rfl, rfl⟩ := e1
  exact ⟨D, s, st, ⟨_, _, _, _, _, _, _, _, _, rfl, hD, hS, hB⟩⟩
end Go.Proofs.YtkefbmbjkijilaaGreatDoor
