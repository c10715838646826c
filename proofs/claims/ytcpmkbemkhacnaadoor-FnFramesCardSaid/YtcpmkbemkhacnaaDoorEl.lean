/-
  What WithFrame answers, as data; a round of the law of torn frames.
-/
import Derived.Test.YtcpmkbemkhacnaaDoorEk
set_option linter.unusedVariables false
namespace Go.Proofs.YtcpmkbemkhacnaaDoor
open Go.RowKit

theorem writeN_of {l : List RecD} (h : writeB l = true) : writeN l = some (wroteN l) := by
  unfold writeN
  rw [if_pos (writeB_true h), wroteN_yes h]
theorem readN_wrote {l : List RecD} (h : writeB l = true) : readN (wroteN l) = some l := read_write (writeN_of h)
/-- Is there a frame more, and room for it? -/
def withOk (b : List Nat) (l : List RecD) : Bool := writeB l && decide ((framesN b).2 + (framedD l).length ≤ 1200)
/-- The store with the frame; as it was where there is none. -/
def withD (b : List Nat) (l : List RecD) : List Nat := if withOk b l then b.take (framesN b).2 ++ framedD l else b
theorem withD_yes {b : List Nat} {l : List RecD} (h : withOk b l = true) : withD b l = b.take (framesN b).2 ++ framedD l := if_pos h
theorem withD_no {b : List Nat} {l : List RecD} (h : withOk b l = false) : withD b l = b := if_neg (by rw [h]; decide)
theorem withD_len (b : List Nat) (l : List RecD) : (withD b l).length ≤ 1200 + b.length := by
  cases h : withOk b l
  · rw [withD_no h]; omega
  · rw [withD_yes h]
    have := framesN_le b
    simp [withOk] at h
    rw [List.length_append, List.length_take]
    omega
/-- What WithFrame answers. -/
def WithD (b : List Nat) (l : List RecD) (w : World) (e : Ending) (w' : World) : Prop :=
  ∃ v, e = .returned (.tuple #[v, .bool (withOk b l)]) ∧ OB w' w.heap.size v (withD b l) ∧ Below w.heap.size w w'
theorem framedD_len {l : List RecD} (h : writeB l = true) : (framedD l).length = 4 + (wroteN l).length := by rw [framedD_yes h, frameN_length]
theorem framedD_max (l : List RecD) : (framedD l).length ≤ 727 := by
  cases h : writeB l
  · rw [framedD_no h]; simp
  · rw [framedD_len h]
    have := wroteN_len l
    omega
theorem framedD_few {l : List RecD} (h : writeB l = true) : (framedD l).length ≤ 7 + 9 * l.length := by
  obtain ⟨h1, h2⟩ := writeB_true h
  rw [framedD_len h, wroteN_yes h, List.length_append]
  have := recsN_len h2
  have := putN_len3 (n := l.length) (by omega)
  omega
/-- A frame behind whole frames: there is room, it is behind them, all are read; torn, it is not there. -/
theorem torn_round {b : List Nat} {ls : List (List RecD)} {l : List RecD} (hb : framesN b = (ls, b.length)) (hw : writeB l = true) (hsz : b.length + (framedD l).length ≤ 1200) :
    withOk b l = true ∧ withD b l = b ++ framedD l ∧ framesN (b ++ framedD l) = (ls ++ [l], (b ++ framedD l).length) ∧ ∀ k, k < (framedD l).length → framesN ((b ++ framedD l).take (b.length + k)) = (ls, b.length) := by
  have h1 : withOk b l = true := by simp [withOk, hw, hb, hsz]
  refine ⟨h1, ?_, ?_, fun k hk => ?_⟩
  · rw [withD_yes h1, hb, List.take_of_length_le (Nat.le_refl _)]
  · rw [framedD_yes hw]
    exact framesN_one hb (readN_wrote hw)
  · rw [framedD_len hw] at hk
    rw [framedD_yes hw]
    exact framesN_torn hb hk
end Go.Proofs.YtcpmkbemkhacnaaDoor
