/-
  A plan and a state in boxes, as the model's draw of both makes them.
-/
import Derived.Test.YtkefbmbjkijilaaGreatDoorMZxZk
/- Zl -/
set_option linter.unusedVariables false
namespace Go.Proofs.YtkefbmbjkijilaaGreatDoor
open Go.RowKit

structure PlSmall (d : PlanD) : Prop where
  s0 : d.n0 ≤ 13
  s1 : d.n1 ≤ 12
  s2 : d.n2 ≤ 12
  s3 : d.n3 ≤ 12
structure StSmall (s : StD) : Prop where
  s0 : s.pods.length ≤ 12
  s1 : s.mnts.length ≤ 12
  s2 : s.devs.length ≤ 12
  s3 : s.lks.length ≤ 13
section
variable {w W W' : World} {g g5 g6 : Nat} {Q0 Q1 Q2 Q3 : Option Addr} {e0 e1 e2 e3 : Nat} {d : PlanD} {Y0 Y1 Y2 Y3 : Option Addr} {f0 f1 f2 f3 : Nat} {s : StD}
end
end Go.Proofs.YtkefbmbjkijilaaGreatDoor
