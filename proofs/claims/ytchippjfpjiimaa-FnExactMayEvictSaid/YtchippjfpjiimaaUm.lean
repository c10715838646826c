/-
  A list's elements appended where the list is only read; the model's copies of lists and of a state.
-/
import Derived.Test.YtchippjfpjiimaaUf
import Derived.Laws.AppendOwnNone
import Derived.Deep.AppendLies
import Derived.OwnWalk
import Derived.StillTailTactics
set_option linter.unusedVariables false
namespace Go.Proofs.Ytchippjfpjiimaa
open Go.RowKit

theorem wpList_append_slv {w : World} {ops : Array Oper} {rest : List Oper} {o : Oper} {a : Act} {Q : Exit → Act → World → Prop} (hgd : o.guard = none) (s x : Operand) (t e : TypeId) (i0 : TypeInfo) (z : Value) (k by' : Nat)
    (ho : o.op = .call { callee := .builtin .append, args := #[s, x], argTypes := #[t, t] }) (hu : Try.prog.underlying t = some (.slice e)) (hi : Try.prog.info? e = some i0) (hz0 : i0.zero = some z) (hz1 : i0.size = k) (hz2 : i0.bytes = by')
    (hzs : z.cells.size = k) (hk : 0 < k) (hby : by' ≤ 1024) (base : Nat) (v : Value) (n : Nat) (xs : List Value) (hs : a.eval s = v) (hown : w.ownsRow base e k v n xs)
    (A : Option Addr) (m c : Nat) (ys : List Value) (hx : a.eval x = .slice A m c) (hr : A = none → c = 0) {B : Nat} (hb : SlV w B k A m ys) (h1 : ∀ u ∈ ys, u.oneCell' = true) (hlen : n + m ≤ 8388608) (hbase : base ≤ w.heap.size)
    (h : ∀ v' w', w'.ownsRow base e k v' (n + m) (xs ++ ys) → w.grownBy w' v.ownBlock → wpList Try.prog ops Q rest (a.put o.dst v') w') : wpList Try.prog ops Q (o :: rest) a w := by
  cases A with
  | none =>
    obtain rfl := hr rfl
    have hm : m = 0 := by
      rcases Nat.eq_zero_or_pos m with h | hne
      · exact h
      · obtain ⟨b, off, e, _⟩ := hb.it hne
        cases e
    subst hm
    have hys : ys = [] := List.eq_nil_of_length_eq_zero (by rw [hb.len]; simp)
    subst hys
    refine wpList_append_own_none hgd s x t ho base e i0 k hu hi v n xs hs hown hx ?_
    have := h v w (by rw [List.append_nil]; exact hown) ⟨rfl, rfl, rfl, Nat.le_refl _, fun _ _ _ => rfl⟩
    exact this
  | some ad =>
    refine wpList_append_own w hgd s x t ho base e i0 z k by' hu hi hz0 hz1 hz2 hzs hk v n xs hs hown ad m c ys hx hb.len ?_ h1 (by unfold maxLen; omega) ?_ hbase ?_
    · intro j y hy
      have hj : j < ys.length := (List.getElem?_eq_some_iff.1 hy).1
      have hl := hb.len
      have hm : 0 < m := by
        rcases Nat.eq_zero_or_pos m with h | h
        · subst h; omega
        · exact h
      obtain ⟨b, off, e, hb1, q⟩ := hb.it hm
      cases e
      have ha : (⟨b, off, none⟩ : Addr).add j = ⟨b, off + j, none⟩ := by unfold Addr.add; split <;> simp_all
      rw [ha, q j (by omega), hy]
    · have : (n + m) * by' ≤ 8388608 * 1024 := Nat.mul_le_mul hlen hby
      omega
    · intro v' w' h1 h2 _
      exact h v' w' h1 h2

theorem podCs_one (l : List (Int × Int)) : ∀ u ∈ podCs l, u.oneCell' = true := by
  induction l with
  | nil => simp [podCs]
  | cons q l ih =>
    intro u hu
    simp only [podCs, List.mem_cons] at hu
    rcases hu with rfl | rfl | hu
    · rfl
    · rfl
    · exact ih u hu
theorem mntCs_one (l : List (Bool × Int)) : ∀ u ∈ mntCs l, u.oneCell' = true := by
  induction l with
  | nil => simp [mntCs]
  | cons q l ih =>
    intro u hu
    simp only [mntCs, List.mem_cons] at hu
    rcases hu with rfl | rfl | hu
    · rfl
    · rfl
    · exact ih u hu
theorem devCs_one (l : List Bool) : ∀ u ∈ devCs l, u.oneCell' = true := by
  intro u hu
  obtain ⟨b, _, rfl⟩ := List.mem_map.1 hu
  rfl
theorem lkCs_one (l : List Int) : ∀ u ∈ lkCs l, u.oneCell' = true := by
  intro u hu
  obtain ⟨b, _, rfl⟩ := List.mem_map.1 hu
  rfl

theorem infoS_i64 : (Try.prog.info? 2).map (fun i => (i.zero, i.size, i.bytes)) = some (some (.int .i64 0), 1, 8) := by kernel_rfl
theorem infoS_bool : (Try.prog.info? 4).map (fun i => (i.zero, i.size, i.bytes)) = some (some (.bool false), 1, 1) := by kernel_rfl
theorem infoS_pod : (Try.prog.info? 63).map (fun i => (i.zero, i.size, i.bytes)) = some (some (.agg #[.int .i64 0, .int .i64 0]), 2, 16) := by kernel_rfl
theorem infoS_mnt : (Try.prog.info? 96).map (fun i => (i.zero, i.size, i.bytes)) = some (some (.agg #[.bool false, .int .i64 0]), 2, 16) := by kernel_rfl

/-- An empty row just made. -/
theorem made_empty (w : World) (B e k : Nat) (hB : B ≤ w.heap.size) : (w.alloc (.cells #[] e)).ownsRow B e k (.slice (some ⟨w.heap.size, 0, none⟩) 0 0) 0 [] := by
  have := World.ownsRow_made (base := w.heap.size) (e := e) (size := k) w #[] 0 (by simp) (Nat.zero_le _) (by simp)
  exact ownsRow_base this hB
/-- A list of cells of the call's own. -/
def MadeL (w : World) (e k n : Nat) (xs : List Value) (en : Ending) (w' : World) : Prop :=
  ∃ v, en = .returned v ∧ w'.ownsRow w.heap.size e k v n xs ∧ Below w.heap.size w w'

end Go.Proofs.Ytchippjfpjiimaa
