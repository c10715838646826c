/-
  Numbers of at most so many bytes; how they are read byte by byte.
-/
import Derived.Test.YtcpmkbemkhacnaaDoorRa
set_option linter.unusedVariables false
namespace Go.Proofs.YtcpmkbemkhacnaaDoor
open Go.RowKit

/-- The number ahead where it is less than m, and what is behind it. -/
def num (m : Nat) (L : List Nat) : Option (Nat × List Nat) := (getN L).bind fun p => if p.1 < m then some p else none
theorem num_some {m n : Nat} {L r : List Nat} : num m L = some (n, r) ↔ getN L = some (n, r) ∧ n < m := by
  unfold num
  cases h : getN L with
  | none => simp
  | some p =>
    obtain ⟨n', r'⟩ := p
    simp only [Option.bind_some, Option.some.injEq, Prod.mk.injEq]
    by_cases hl : n' < m
    · rw [if_pos hl]; simp; intro h1 h2; omega
    · rw [if_neg hl]; simp; intro h1 h2; omega
theorem num_none {m : Nat} {L : List Nat} : num m L = none ↔ ∀ n r, getN L = some (n, r) → ¬ n < m := by
  constructor
  · intro h n r hg hl
    rw [num_some.2 ⟨hg, hl⟩] at h
    cases h
  · intro h
    cases e : num m L with
    | none => rfl
    | some p => obtain ⟨n, r⟩ := p; obtain ⟨h1, h2⟩ := num_some.1 e; exact absurd h2 (h n r h1)
/-- What the first k bytes tell. -/
def lowN : Nat → List Nat → Nat
  | 0, _ => 0
  | _ + 1, [] => 0
  | k + 1, x :: r => x % 128 + 128 * lowN k r
theorem lowN_succ (k : Nat) (L : List Nat) : lowN (k + 1) L = lowN k L + L.getD k 0 % 128 * 128 ^ k := by
  induction k generalizing L with
  | zero => cases L <;> simp [lowN]
  | succ k ih =>
    cases L with
    | nil => simp [lowN]
    | cons x r =>
      rw [lowN, ih r, lowN]
      simp only [List.getD_cons_succ]
      rw [Nat.pow_succ, ← Nat.mul_assoc]
      generalize r.getD k 0 % 128 * 128 ^ k = q
      omega
theorem lowN_lt (k : Nat) (L : List Nat) : lowN k L < 128 ^ k := by
  induction k generalizing L with
  | zero => simp [lowN]
  | succ k ih =>
    cases L with
    | nil => simp [lowN]; exact Nat.pow_pos (by omega)
    | cons x r => rw [lowN, Nat.pow_succ]; have := ih r; omega
theorem getN_at {k : Nat} : ∀ {L : List Nat}, k < L.length → (∀ j, j < k → 128 ≤ L.getD j 0) → L.getD k 0 < 128 → (∀ x ∈ L, x < 256) →
    getN L = if k = 0 ∨ 0 < L.getD k 0 then some (lowN (k + 1) L, L.drop (k + 1)) else none := by
  induction k with
  | zero =>
    intro L hk _ hl _
    cases L with
    | nil => simp at hk
    | cons x r =>
      simp at hl
      rw [getN_last hl, if_pos (.inl rfl)]
      simp [lowN]
      omega
  | succ k ih =>
    intro L hk hj hl hb
    cases L with
    | nil => simp at hk
    | cons x r =>
      have hx := hj 0 (by omega)
      have hx2 := hb x (by simp)
      simp only [List.getD_cons_zero] at hx
      simp only [List.getD_cons_succ] at hl ⊢
      have e := ih (L := r) (by simpa using hk) (fun j h => by have := hj (j + 1) (by omega); simpa using this) hl (fun y hy => hb y (by simp [hy]))
      by_cases hz : 0 < r.getD k 0
      · rw [if_pos (.inr hz)] at e
        rw [if_pos (.inr hz), getN_more (by omega) e]
        · simp [lowN]; omega
        · have := lowN_succ k r
          have h2 : 0 < r.getD k 0 % 128 * 128 ^ k := Nat.mul_pos (by rw [Nat.mod_eq_of_lt hl]; exact hz) (Nat.pow_pos (by omega))
          omega
      · rw [if_neg (by omega)]
        by_cases hk0 : k = 0
        · subst hk0
          rw [if_pos (.inl rfl)] at e
          have h1 := lowN_succ 0 r
          have h0 : r.getD 0 0 = 0 := by omega
          rw [h0] at h1
          have : lowN 1 r = 0 := by simpa [lowN] using h1
          rw [this] at e
          exact getN_nought (by omega) e
        · rw [if_neg (by omega)] at e
          exact getN_bad (by omega) e
theorem getN_end {m : Nat} : ∀ {L : List Nat}, (∀ j, j < m → j < L.length → 128 ≤ L.getD j 0) → ∀ n r, getN L = some (n, r) → n ≠ 0 → 128 ^ m ≤ n := by
  induction m with
  | zero => intro L _ n r _ hn; simp; omega
  | succ m ih =>
    intro L hj n r hg hn
    cases L with
    | nil => cases hg
    | cons x t =>
      have hx := hj 0 (by omega) (by simp)
      simp only [List.getD_cons_zero] at hx
      cases hq : getN t with
      | none => rw [getN_bad (by omega) hq] at hg; cases hg
      | some q =>
        obtain ⟨k, r'⟩ := q
        by_cases h0 : k = 0
        · subst h0; rw [getN_nought (by omega) hq] at hg; cases hg
        · rw [getN_more (by omega) hq h0] at hg
          cases hg
          have := ih (L := t) (fun j h1 h2 => by have := hj (j + 1) (by omega) (by simpa using h2); simpa using this) k r hq h0
          rw [Nat.pow_succ]
          omega
/-- A number whose last byte is the (k+1)th, k less than K. -/
theorem num_at {k K : Nat} {L : List Nat} (hK : k < K) (hk : k < L.length) (hj : ∀ j, j < k → 128 ≤ L.getD j 0) (hl : L.getD k 0 < 128) (hb : ∀ x ∈ L, x < 256) (hz : k = 0 ∨ 0 < L.getD k 0) :
    num (128 ^ K) L = some (lowN (k + 1) L, L.drop (k + 1)) := by
  have e := getN_at hk hj hl hb
  rw [if_pos hz] at e
  exact num_some.2 ⟨e, Nat.lt_of_lt_of_le (lowN_lt _ _) (Nat.pow_le_pow_right (by omega) hK)⟩
theorem num_bad {k m : Nat} {L : List Nat} (hk : k < L.length) (hj : ∀ j, j < k → 128 ≤ L.getD j 0) (hl : L.getD k 0 < 128) (hb : ∀ x ∈ L, x < 256) (hz : ¬ (k = 0 ∨ 0 < L.getD k 0)) :
    num m L = none := by
  have e := getN_at hk hj hl hb
  rw [if_neg hz] at e
  exact num_none.2 fun n r h => by rw [e] at h; cases h
theorem num_end {K : Nat} {L : List Nat} (hK : 0 < K) (hj : ∀ j, j < K → j < L.length → 128 ≤ L.getD j 0) : num (128 ^ K) L = none := by
  refine num_none.2 fun n r h hl => ?_
  have hn : n ≠ 0 := by
    intro e
    subst e
    cases L with
    | nil => cases h
    | cons x t =>
      have hx := hj 0 hK (by simp)
      simp only [List.getD_cons_zero] at hx
      cases hq : getN t with
      | none => rw [getN_bad (by omega) hq] at h; cases h
      | some q =>
        obtain ⟨k, r'⟩ := q
        by_cases h0 : k = 0
        · subst h0; rw [getN_nought (by omega) hq] at h; cases h
        · rw [getN_more (by omega) hq h0] at h
          injection h with h
          injection h with h _
          omega
  have := getN_end hj n r h hn
  omega

/-- A record read of numbers that are less than m: the same, as no record has a number that is more than a million. -/
theorem getRec_num {m : Nat} (hm : 1000000 < m) (L : List Nat) : getRec L =
    (num m L).bind fun p => (num m p.2).bind fun q => (num m q.2).bind fun s => if recOkB ⟨p.1, q.1, s.1⟩ then some (⟨p.1, q.1, s.1⟩, s.2) else none := by
  have hno : ∀ {k a b : Nat}, (m ≤ k ∨ m ≤ a ∨ m ≤ b) → recOkB ⟨k, a, b⟩ = false := fun {k a b} h => by
    cases e : recOkB ⟨k, a, b⟩
    · rfl
    · have := recOkB_true.1 e
      dsimp only at this
      omega
  unfold getRec num
  cases h1 : getN L with
  | none => rfl
  | some p =>
    obtain ⟨k, r1⟩ := p
    dsimp only [Option.bind_some]
    cases h2 : getN r1 with
    | none => by_cases hk : k < m <;> simp [hk, h2]
    | some q =>
      obtain ⟨a, r2⟩ := q
      dsimp only
      cases h3 : getN r2 with
      | none => by_cases hk : k < m <;> by_cases ha : a < m <;> simp [hk, ha, h2, h3]
      | some s =>
        obtain ⟨b, r3⟩ := s
        dsimp only
        by_cases hk : k < m
        · by_cases ha : a < m
          · by_cases hb : b < m
            · simp [hk, ha, hb, h2, h3]
            · rw [hno (.inr (.inr (by omega)))]
              simp [hk, ha, hb, h2, h3]
          · rw [hno (.inr (.inl (by omega)))]
            simp [hk, ha, h2]
        · rw [hno (.inl (by omega))]
          simp [hk]
/-- What is read of bytes, by such numbers. -/
theorem readN_num {m : Nat} (hm : 80 < m) (L : List Nat) : readN L = (num m L).bind fun p => if 80 < p.1 then none else (getRecs p.1 p.2).bind fun q => if q.2 = [] then some q.1 else none := by
  unfold readN num
  cases h1 : getN L with
  | none => rfl
  | some p =>
    obtain ⟨n, r⟩ := p
    dsimp only [Option.bind_some]
    by_cases hn : n < m
    · rw [if_pos hn]
      dsimp only [Option.bind_some]
      by_cases h8 : 80 < n
      · rw [if_pos h8, if_pos h8]
      · rw [if_neg h8, if_neg h8]
        cases getRecs n r with
        | none => rfl
        | some q => rfl
    · rw [if_neg hn, if_pos (by omega)]
      rfl
theorem getRecs_zero (L : List Nat) : getRecs 0 L = some ([], L) := rfl
theorem getRecs_succ (n : Nat) (L : List Nat) : getRecs (n + 1) L = (getRec L).bind fun p => (getRecs n p.2).map fun q => (p.1 :: q.1, q.2) := by
  rw [getRecs]
  cases getRec L with
  | none => rfl
  | some p =>
    obtain ⟨r, b⟩ := p
    dsimp only [Option.bind_some]
    cases getRecs n b with
    | none => rfl
    | some q => rfl
end Go.Proofs.YtcpmkbemkhacnaaDoor
