/-
  Contracts: SumsOf and MeanGrade, in the program and in the model of it.
-/
import Derived.Test.YthdbcncdihcggabM7
import Derived.Test.YthdbcncdihcggabG1
namespace Go.Proofs.Ythdbcncdihcggab
open Go.RowKit
set_option linter.unusedVariables false

def sumTV (x y z : Int) (ts gs rs bs : List Int) : Int := if listB x y z ts gs rs bs then sumT ts bs else 0
def sumMV (x y z : Int) (ts gs rs bs : List Int) : Int := if listB x y z ts gs rs bs then sumM ts gs bs else 0

/-- There are tonnes in the list. -/
def meanB (x y z : Int) (ts gs rs bs : List Int) : Bool := listB x y z ts gs rs bs && decide (sumT ts bs ≠ 0)
def meanA (x y z : Int) (ts gs rs bs : List Int) : Int := if meanB x y z ts gs rs bs then sumM ts gs bs / (Int.gcd (sumM ts gs bs) (sumT ts bs) : Int) else 0
def meanC (x y z : Int) (ts gs rs bs : List Int) : Int := if meanB x y z ts gs rs bs then sumT ts bs / (Int.gcd (sumM ts gs bs) (sumT ts bs) : Int) else 0
theorem sum_box {x y z : Int} {ts gs rs bs : List Int} (h : listB x y z ts gs rs bs = true) : 0 ≤ sumT ts bs ∧ sumT ts bs ≤ 4000000000 ∧ 0 ≤ sumM ts gs bs ∧ sumM ts gs bs ≤ 4000000000 := by
  have hl := list_len h
  have a := sumN_box (f := tonF ts bs) (n := bs.length) (fun k hk => ton_box h hk) (by omega) bs.length (Nat.le_refl _)
  have b := sumN_box (f := metF ts gs bs) (n := bs.length) (fun k hk => met_box h hk) (by omega) bs.length (Nat.le_refl _)
  unfold sumT sumM
  omega

end Go.Proofs.Ythdbcncdihcggab
