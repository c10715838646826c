/-
  Data that come in, opened: structs and slices of whole numbers.
-/
import Derived.Test.YtfilbodigooenaaA1
import Derived.ProofKit
import Derived.Deep.Slices
import Derived.Deep.Fields
import Derived.ChangeSame
import Derived.JoinedOf
set_option linter.unusedVariables false
namespace Go.Proofs.Ytfilbodigooenaa
open Go.ChangeShapes Go.WideShapes Go.ChangeAt Go.RowKit Go.Deep

/-- Every field is a plain int64. -/
def intFields (P : Program) (fs : Array Field) : Bool := (List.range fs.size).all fun j => match fs[j]? with
  | some f => (match P.underlying f.type with | some (.int .i64) => true | _ => false)
  | none => false
theorem intFields_at {P : Program} {fs : Array Field} (h : intFields P fs = true) {j : Nat} {f : Field} (hj : fs[j]? = some f) : P.underlying f.type = some (.int .i64) := by
  have hlt : j < fs.size := (Array.getElem?_eq_some_iff.1 hj).1
  have := List.all_eq_true.1 h j (List.mem_range.2 hlt)
  simp only [hj] at this
  split at this
  · assumption
  · cases this

section
variable {H : Type} {enc : TypeId × Value → H} {P : Program} {w : World} {spare : Nat → Bool} {held : Bool}
theorem sl_of_cells {a : Addr} {n k : Nat} (hk : 0 < k) (h : ∀ i, i < n → ∀ j, j < k → ∃ z, w.cell? ((a.add (i * k)).add j) = some (.int .i64 z)) : ∃ X, Sl w w.heap.size k (some a) n X := by
  rcases Nat.eq_zero_or_pos n with hn | hn
  · exact ⟨fun _ => 0, fun h0 => absurd h0 (by omega)⟩
  have hsp : a.spot = none := by
    obtain ⟨z, hz⟩ := h 0 hn 0 hk
    simpa [Addr.add] using World.cell?_spot hz
  obtain ⟨b, off, sp⟩ := a
  subst hsp
  have h' : ∀ q, q < n * k → ∃ z : Int, w.cell? ⟨b, off + q, none⟩ = some (.int .i64 z) := fun q hq => by
    obtain ⟨z, hz⟩ := h (q / k) ((Nat.div_lt_iff_lt_mul hk).2 hq) (q % k) (Nat.mod_lt _ hk)
    rw [add_plain, add_plain, Nat.add_assoc, Nat.mul_comm, Nat.div_add_mod] at hz
    exact ⟨z, hz⟩
  obtain ⟨X, hX⟩ := choose_lt h'
  exact ⟨X, fun _ => ⟨b, off, rfl, block_lt_of_cell (hX 0 (Nat.mul_pos hn hk)), hX⟩⟩

/-- A slice of structs of plain int64 fields. -/
theorem sl_structs {t e : TypeId} {fs : Array Field} {fuel k : Nat} {v : Value} {x : DataW H × List MemPlace} (ht : P.underlying t = some (.slice e)) (he : P.underlying e = some (.struct fs))
    (hone : oneCellFields P fs = true) (hint : intFields P fs = true) (hC : P.cellsOf e = k) (hk : fs.size = k) (hk0 : 0 < k) (h : DataW.trod enc P w 0 spare held fuel t [v] = some x) :
    ∃ A n c X, v = .slice A n c ∧ n ≤ maxLen ∧ Sl w w.heap.size k A n X := by
  rcases open_slice ht h with ⟨h1, _⟩ | ⟨a, len, cap, m, n, D, Pl, hcs, hb, hl, hm, hmm, hx, hi⟩
  · injection h1 with h1 _
    exact ⟨none, 0, 0, fun _ => 0, h1, Nat.zero_le _, fun h0 => absurd h0 (by omega)⟩
  · injection hcs with hv _
    have hlm : len ≤ m := by rw [hmm]; split <;> omega
    obtain ⟨X, hX⟩ := sl_of_cells (w := w) (a := a) (n := len) hk0 (fun i hin j hj => by
      obtain ⟨cs', hc, ht'⟩ := hi i (by omega)
      rw [hC] at hc
      obtain ⟨ys, n', _, hy, hlen, hyl, hf⟩ := DataW.trod_struct he ht'
      obtain ⟨_, hcl, hat⟩ := World.cells?_some hc
      obtain ⟨f, hfj⟩ : ∃ f, fs[j]? = some f := ⟨_, Array.getElem?_eq_getElem (by omega)⟩
      obtain ⟨ho, hk1⟩ := hone_of hone j f hfj
      have h1 := hf j f hfj
      rw [ho, hk1] at h1
      have hone' : (cs'.drop j).take 1 = [cs'[j]'(by omega)] := by
        rw [List.drop_eq_getElem_cons (by omega)]
        rfl
      rw [hone', List.getElem?_eq_getElem (by omega)] at h1
      obtain ⟨z, hz, _, _⟩ := DataW.trod_int (intFields_at hint hfj) h1
      injection hz with hz _
      exact ⟨z, by rw [hat j hj, List.getElem?_eq_getElem (by omega), hz]⟩)
    exact ⟨some a, len, cap, X, hv, Nat.le_trans hl hm, hX⟩
/-- A slice of int64. -/
theorem sl_ints {t e : TypeId} {fuel : Nat} {v : Value} {x : DataW H × List MemPlace} (ht : P.underlying t = some (.slice e)) (he : P.underlying e = some (.int .i64)) (hC : P.cellsOf e = 1)
    (h : DataW.trod enc P w 0 spare held fuel t [v] = some x) : ∃ A n c X, v = .slice A n c ∧ n ≤ maxLen ∧ Sl w w.heap.size 1 A n X := by
  rcases open_ints ht he hC h with ⟨h1, _⟩ | ⟨a, len, cap, zs, hcs, hb, hl, hm, hz, hx, hcell, _⟩
  · injection h1 with h1 _
    exact ⟨none, 0, 0, fun _ => 0, h1, Nat.zero_le _, fun h0 => absurd h0 (by omega)⟩
  · injection hcs with hv _
    have hlm : len ≤ zs.length := by rw [hz]; split <;> omega
    obtain ⟨X, hX⟩ := sl_of_cells (w := w) (a := a) (n := len) (k := 1) (by omega) (fun i hin j hj => by
      obtain rfl : j = 0 := by omega
      rw [Nat.mul_one]
      exact ⟨_, hcell i (by omega)⟩)
    exact ⟨some a, len, cap, X, hv, Nat.le_trans hl hm, hX⟩
/-- A struct of one-cell fields: each field's own reading. -/
theorem agg_of_trod {r : Reach} {b0 : Nat} {t : TypeId} {fs : Array Field} {v : Value} {d : DataW H} {p : List MemPlace} (hs : P.underlying t = some (.struct fs)) (hone : oneCellFields P fs = true) (hC : P.cellsOf t = fs.size)
    (hv : Value.okWide P w r b0 t v) (h : DataW.Trod enc P w 0 spare held t v d p) :
    ∃ cs : Array Value, v = .agg cs ∧ ∃ hsz : cs.size = fs.size, ∃ n, ∀ (j : Nat) (f : Field) (hj : fs[j]? = some f), ∃ y, DataW.trod enc P w 0 spare held n f.type [cs[j]'(by rw [hsz]; exact (Array.getElem?_eq_some_iff.1 hj).1)] = some y := by
  obtain ⟨cs, rfl, hsz⟩ := okWide_struct hs hv
  rw [hC] at hsz
  obtain ⟨fuel, hf⟩ := h
  obtain ⟨xs, n, _, hx, _, hlen, hg⟩ := DataW.trod_struct hs hf
  refine ⟨cs, rfl, hsz, n, fun j f hj => ?_⟩
  have hjl : j < fs.size := (Array.getElem?_eq_some_iff.1 hj).1
  obtain ⟨ho, hk⟩ := hone_of hone j f hj
  have h1 := hg j f hj
  rw [ho, hk] at h1
  have hl : (Value.cells (.agg cs)).toList = cs.toList := rfl
  rw [hl] at h1
  have hone' : (cs.toList.drop j).take 1 = [cs[j]'(by omega)] := by
    rw [List.drop_eq_getElem_cons (by simp; omega)]
    simp
  rw [hone', List.getElem?_eq_getElem (by omega)] at h1
  exact ⟨_, h1⟩
end

theorem own_ : ownKnob Try.prog.godebug = none := by kernel_rfl
theorem laid_ : laidOutB Try.prog = true := by kernel_rfl

theorem at_of_map {fs : Array Field} {ts : Array TypeId} (h : fs.map (·.type) = ts) {j : Nat} {t : TypeId} (hj : ts[j]? = some t) : ∃ f, fs[j]? = some f ∧ f.type = t := by
  rw [← h, Array.getElem?_map] at hj
  cases hf : fs[j]? with
  | none => rw [hf] at hj; cases hj
  | some f => rw [hf] at hj; exact ⟨f, rfl, Option.some.inj hj⟩

end Go.Proofs.Ytfilbodigooenaa
