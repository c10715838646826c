/-
  Numbers and records as bytes, there and back.
-/
import Derived.Test.YtchippjfpjiimaaA0
set_option linter.unusedVariables false
namespace Go.Proofs.Ytchippjfpjiimaa
open Go.RowKit

/-- A number in 7 bits a byte, the lowest ones first. -/
def putN (n : Nat) : List Nat := if h : n < 128 then [n] else (n % 128 + 128) :: putN (n / 128)
termination_by n
decreasing_by omega
theorem putN_small {n : Nat} (h : n < 128) : putN n = [n] := by rw [putN, dif_pos h]
theorem putN_big {n : Nat} (h : ¬ n < 128) : putN n = (n % 128 + 128) :: putN (n / 128) := by rw [putN, dif_neg h]
/-- The number ahead, and what is behind it. -/
def getN : List Nat → Option (Nat × List Nat)
  | [] => none
  | x :: r => if x < 128 then some (x, r) else match getN r with
    | none => none
    | some (n, r') => if n = 0 then none else some (x - 128 + 128 * n, r')
theorem getN_nil : getN [] = none := rfl
theorem getN_last {x : Nat} {r : List Nat} (h : x < 128) : getN (x :: r) = some (x, r) := by rw [getN, if_pos h]
theorem getN_more {x n : Nat} {r r' : List Nat} (h : ¬ x < 128) (hr : getN r = some (n, r')) (hn : n ≠ 0) : getN (x :: r) = some (x - 128 + 128 * n, r') := by
  simp [getN, if_neg h, hr, hn]
theorem getN_nought {x : Nat} {r r' : List Nat} (h : ¬ x < 128) (hr : getN r = some (0, r')) : getN (x :: r) = none := by simp [getN, if_neg h, hr]
theorem getN_bad {x : Nat} {r : List Nat} (h : ¬ x < 128) (hr : getN r = none) : getN (x :: r) = none := by simp [getN, if_neg h, hr]
theorem getN_putN (n : Nat) (r : List Nat) : getN (putN n ++ r) = some (n, r) := by
  induction n using Nat.strongRecOn with
  | ind n ih =>
    by_cases h : n < 128
    · rw [putN_small h]; exact getN_last h
    · rw [putN_big h, List.cons_append, getN_more (by omega) (ih (n / 128) (by omega)) (by omega)]
      congr 2
      omega
theorem putN_getN {b : List Nat} : ∀ {n : Nat} {r : List Nat}, (∀ x ∈ b, x < 256) → getN b = some (n, r) → b = putN n ++ r := by
  induction b with
  | nil => intro n r _ h; cases h
  | cons x b ih =>
    intro n r hb h
    have hx := hb x (by simp)
    by_cases h1 : x < 128
    · rw [getN_last h1] at h
      cases h
      rw [putN_small h1]
      rfl
    · cases hg : getN b with
      | none => rw [getN_bad h1 hg] at h; cases h
      | some q =>
        obtain ⟨m, r'⟩ := q
        by_cases h0 : m = 0
        · subst h0; rw [getN_nought h1 hg] at h; cases h
        · rw [getN_more h1 hg h0] at h
          cases h
          have e := ih (fun y hy => hb y (by simp [hy])) hg
          rw [putN_big (by omega), show (x - 128 + 128 * m) % 128 + 128 = x by omega, show (x - 128 + 128 * m) / 128 = m by omega, List.cons_append, ← e]
theorem putN_bytes (n : Nat) : ∀ x ∈ putN n, x < 256 := by
  induction n using Nat.strongRecOn with
  | ind n ih =>
    by_cases h : n < 128
    · rw [putN_small h]
      intro x hx
      simp at hx
      omega
    · rw [putN_big h]
      intro x hx
      rcases List.mem_cons.1 hx with rfl | hx
      · omega
      · exact ih (n / 128) (by omega) x hx
theorem putN_pos (n : Nat) : 0 < (putN n).length := by
  by_cases h : n < 128
  · rw [putN_small h]; simp
  · rw [putN_big h]; simp
theorem putN_length (k n : Nat) : 0 < k → ((putN n).length ≤ k ↔ n < 128 ^ k) := by
  induction k generalizing n with
  | zero => omega
  | succ k ih =>
    intro _
    by_cases h : n < 128
    · rw [putN_small h]
      have : 128 ^ 1 ≤ 128 ^ (k + 1) := Nat.pow_le_pow_right (by omega) (by omega)
      simp
      omega
    · rw [putN_big h, List.length_cons]
      rcases Nat.eq_zero_or_pos k with rfl | hk
      · have := putN_pos (n / 128)
        omega
      · have e := ih (n / 128) hk
        have hp : 128 ^ (k + 1) = 128 ^ k * 128 := Nat.pow_succ ..
        have h2 : n / 128 < 128 ^ k ↔ n < 128 ^ k * 128 := Nat.div_lt_iff_lt_mul (by omega)
        omega
/-- What is behind a number is a part of what was there. -/
theorem getN_drop {b : List Nat} {n : Nat} {r : List Nat} (h : getN b = some (n, r)) : ∃ k, 0 < k ∧ k ≤ b.length ∧ r = b.drop k := by
  induction b generalizing n r with
  | nil => cases h
  | cons x b ih =>
    by_cases h1 : x < 128
    · rw [getN_last h1] at h
      cases h
      exact ⟨1, by omega, by simp, rfl⟩
    · cases hg : getN b with
      | none => rw [getN_bad h1 hg] at h; cases h
      | some q =>
        obtain ⟨m, r'⟩ := q
        by_cases h0 : m = 0
        · subst h0; rw [getN_nought h1 hg] at h; cases h
        · rw [getN_more h1 hg h0] at h
          cases h
          obtain ⟨k, h2, h3, rfl⟩ := ih hg
          exact ⟨k + 1, by omega, by simpa using h3, rfl⟩

/-- A record's three numbers. -/
structure RecD where
  k : Int
  a : Int
  b : Int
deriving DecidableEq
def recOkB (r : RecD) : Bool := inB r.k 1 12 && inB r.a 0 1000000 && inB r.b 0 1000000
theorem recOkB_true {r : RecD} : recOkB r = true ↔ (1 ≤ r.k ∧ r.k ≤ 12) ∧ (0 ≤ r.a ∧ r.a ≤ 1000000) ∧ (0 ≤ r.b ∧ r.b ≤ 1000000) := by
  simp [recOkB, inB_true, and_assoc]
def recN (r : RecD) : List Nat := putN r.k.toNat ++ (putN r.a.toNat ++ putN r.b.toNat)
def recsN : List RecD → List Nat
  | [] => []
  | r :: l => recN r ++ recsN l
theorem recsN_append (l m : List RecD) : recsN (l ++ m) = recsN l ++ recsN m := by
  induction l with
  | nil => rfl
  | cons r l ih => simp [recsN, ih]
def allOk (l : List RecD) : Bool := l.all recOkB
/-- What is written of records: nothing where they can't be. -/
def writeN (l : List RecD) : Option (List Nat) := if l.length ≤ 80 ∧ allOk l = true then some (putN l.length ++ recsN l) else none
def getRec (b : List Nat) : Option (RecD × List Nat) :=
  match getN b with
  | none => none
  | some (k, b1) => match getN b1 with
    | none => none
    | some (a, b2) => match getN b2 with
      | none => none
      | some (c, b3) => if recOkB ⟨k, a, c⟩ then some (⟨k, a, c⟩, b3) else none
def getRecs : Nat → List Nat → Option (List RecD × List Nat)
  | 0, b => some ([], b)
  | n + 1, b => match getRec b with
    | none => none
    | some (r, b1) => match getRecs n b1 with
      | none => none
      | some (l, b2) => some (r :: l, b2)
/-- What is read of bytes. -/
def readN (b : List Nat) : Option (List RecD) :=
  match getN b with
  | none => none
  | some (n, r) => if 80 < n then none else match getRecs n r with
    | none => none
    | some (l, r2) => if r2 = [] then some l else none

theorem getRec_recN {r : RecD} (h : recOkB r = true) (b : List Nat) : getRec (recN r ++ b) = some (r, b) := by
  have hr := recOkB_true.1 h
  obtain ⟨k, a, c⟩ := r
  dsimp only at hr
  have e : (⟨(k.toNat : Int), (a.toNat : Int), (c.toNat : Int)⟩ : RecD) = ⟨k, a, c⟩ := by congr 1 <;> omega
  simp only [getRec, recN, List.append_assoc, getN_putN, e, h, if_true]
theorem getRecs_recsN {l : List RecD} (h : allOk l = true) (b : List Nat) : getRecs l.length (recsN l ++ b) = some (l, b) := by
  induction l with
  | nil => rfl
  | cons r l ih =>
    simp only [allOk, List.all_cons, Bool.and_eq_true] at h
    simp only [List.length_cons, getRecs, recsN, List.append_assoc, getRec_recN h.1, ih h.2]
/-- What is written is read as it was. -/
theorem read_write {l : List RecD} {b : List Nat} (h : writeN l = some b) : readN b = some l := by
  unfold writeN at h
  split at h
  · rename_i hc
    cases h
    have e := getRecs_recsN hc.2 []
    rw [List.append_nil] at e
    simp only [readN, getN_putN, e, if_true, if_neg (show ¬ 80 < l.length by omega)]
  · cases h
theorem recN_getRec {b : List Nat} {r : RecD} {b' : List Nat} (hb : ∀ x ∈ b, x < 256) (h : getRec b = some (r, b')) : b = recN r ++ b' ∧ recOkB r = true ∧ ∀ x ∈ b', x < 256 := by
  unfold getRec at h
  split at h
  · cases h
  rename_i k b1 h1
  split at h
  · cases h
  rename_i a b2 h2
  split at h
  · cases h
  rename_i c b3 h3
  split at h
  · rename_i hk
    cases h
    have e1 := putN_getN hb h1
    have B1 : ∀ x ∈ b1, x < 256 := fun x hx => hb x (by rw [e1]; simp [hx])
    have e2 := putN_getN B1 h2
    have B2 : ∀ x ∈ b2, x < 256 := fun x hx => B1 x (by rw [e2]; simp [hx])
    have e3 := putN_getN B2 h3
    refine ⟨?_, hk, fun x hx => B2 x (by rw [e3]; simp [hx])⟩
    rw [e1, e2, e3]
    simp [recN]
  · cases h
theorem recsN_getRecs {n : Nat} : ∀ {b : List Nat} {l : List RecD} {b' : List Nat}, (∀ x ∈ b, x < 256) → getRecs n b = some (l, b') → b = recsN l ++ b' ∧ allOk l = true ∧ l.length = n := by
  induction n with
  | zero => intro b l b' _ h; cases h; exact ⟨rfl, rfl, rfl⟩
  | succ n ih =>
    intro b l b' hb h
    unfold getRecs at h
    split at h
    · cases h
    rename_i r b1 h1
    split at h
    · cases h
    rename_i l2 b2 h2
    cases h
    obtain ⟨e1, k1, B1⟩ := recN_getRec hb h1
    obtain ⟨e2, k2, k3⟩ := ih B1 h2
    refine ⟨by rw [e1, e2]; simp [recsN], by simp only [allOk, List.all_cons, Bool.and_eq_true]; exact ⟨k1, k2⟩, by simp [k3]⟩
/-- What is read is written as it was. -/
theorem write_read {b : List Nat} {l : List RecD} (hb : ∀ x ∈ b, x < 256) (h : readN b = some l) : writeN l = some b := by
  unfold readN at h
  split at h
  · cases h
  rename_i n r h1
  split at h
  · cases h
  rename_i h80
  split at h
  · cases h
  rename_i l2 r2 h2
  split at h
  · rename_i hr
    cases h
    subst hr
    have e1 := putN_getN hb h1
    obtain ⟨e2, k2, k3⟩ := recsN_getRecs (fun x hx => hb x (by rw [e1]; simp [hx])) h2
    rw [writeN, if_pos ⟨by omega, k2⟩, e1, e2, k3]
    simp
  · cases h
theorem readN_iff {b : List Nat} {l : List RecD} (hb : ∀ x ∈ b, x < 256) : readN b = some l ↔ writeN l = some b := ⟨write_read hb, read_write⟩
theorem writeN_bytes {l : List RecD} {b : List Nat} (h : writeN l = some b) : ∀ x ∈ b, x < 256 := by
  unfold writeN at h
  split at h
  · cases h
    intro x hx
    rcases List.mem_append.1 hx with hx | hx
    · exact putN_bytes _ x hx
    · have : ∀ l : List RecD, ∀ x ∈ recsN l, x < 256 := fun l => by
        induction l with
        | nil => intro x hx; cases hx
        | cons r l ih =>
          intro x hx
          simp only [recsN, recN, List.mem_append] at hx
          rcases hx with (hx | hx | hx) | hx
          · exact putN_bytes _ x hx
          · exact putN_bytes _ x hx
          · exact putN_bytes _ x hx
          · exact ih x hx
      exact this l x hx
  · cases h
end Go.Proofs.Ytchippjfpjiimaa
