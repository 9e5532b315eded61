/-
  Contracts: the places of a list whose numbers are wanted; AboveGrade, in the program and in the model; a model marked.
-/
import Derived.Test.YtdodmcmkelegoaaM6
namespace Go.Proofs.Ytdodmcmkelegoaa
open Go.RowKit
set_option linter.unusedVariables false

theorem row_more {w3 : World} {B : Nat} {v' : Value} {xs : List Int} {k : Int} (h : w3.ownsRow B 3 1 v' (xs.length + 1) (ints xs ++ [.int .i64 k])) : Row w3 B v' (xs ++ [k]) := by
  unfold Row
  rw [List.length_append, show ints (xs ++ [k]) = ints xs ++ [.int .i64 k] by simp [ints]]
  exact h
/-- A list and a bool. -/
def GivesRow2 (w : World) (xs : List Int) (b : Bool) (e : Ending) (w' : World) : Prop := ∃ v, e = .returned (.tuple #[v, .bool b]) ∧ Row w' w.heap.size v xs ∧ Below w.heap.size w w'
/-- Whether the number at place i is wanted. -/
def pAt (q : Int → Bool) (xs : List Int) : Int → Bool := fun i => q (xs.getD i.toNat 0)
theorem pAt_nat (q : Int → Bool) (xs : List Int) (k : Nat) : pAt q xs k = q (xs.getD k 0) := rfl

def abB (x y z : Int) (ts gs rs : List Int) (g : Int) : Bool := moB x y z ts gs rs && decide (0 ≤ g ∧ g ≤ 1001)
def abQ (g : Int) : Int → Bool := fun t => decide (g ≤ t)
def abL (x y z : Int) (ts gs rs : List Int) (g : Int) : List Int := if abB x y z ts gs rs g then sel (pAt (abQ g) gs) gs.length else []
theorem abQ_at (g t : Int) : abQ g t = decide (g ≤ t) := rfl

end Go.Proofs.Ytdodmcmkelegoaa
