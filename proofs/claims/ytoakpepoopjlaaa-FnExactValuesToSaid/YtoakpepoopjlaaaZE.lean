/-
  Contracts: turned networks, in the program and in the model of it.
-/
import Derived.Test.YtoakpepoopjlaaaZD
import Derived.Test.YtoakpepoopjlaaaAP
import Derived.Deep.RegionHeld3
import Derived.Deep.DeepCutAuto
namespace Go.Proofs.Ytoakpepoopjlaaa
open Go.RowKit
set_option linter.unusedVariables false

/-- The first k edges turned. -/
def turL (n : Int) (xs : List Int) : Nat → List Int
  | 0 => []
  | k + 1 => turL n xs k ++ [n - 1 - xs.getD (k * 3 + 1) 0, n - 1 - xs.getD (k * 3) 0, xs.getD (k * 3 + 2) 0]
theorem turL_len (n : Int) (xs : List Int) : ∀ k, (turL n xs k).length = k * 3
  | 0 => rfl
  | k + 1 => by unfold turL; rw [List.length_append, turL_len n xs k]; simp; omega
/-- The first k of m edges turned, room for the others. -/
def turM (n : Int) (xs : List Int) (m k : Nat) : List Int := turL n xs k ++ List.replicate (m * 3 - k * 3) 0
theorem turM_zero (n : Int) (xs : List Int) (m : Nat) : turM n xs m 0 = List.replicate (m * 3) 0 := by simp [turM, turL]
theorem turM_all (n : Int) (xs : List Int) (m : Nat) : turM n xs m m = turL n xs m := by simp [turM]
theorem set_three (P : List Int) (r q : Nat) (a b c : Int) (hq : P.length = q) : (((P ++ List.replicate (r + 3) 0).set q a).set (q + 1) b).set (q + 2) c = (P ++ [a, b, c]) ++ List.replicate r 0 := by
  subst hq
  simp [List.replicate_succ]
theorem turM_set (n : Int) (xs : List Int) (m k : Nat) (hk : k < m) : (((turM n xs m k).set (k * 3) (n - 1 - xs.getD (k * 3 + 1) 0)).set (k * 3 + 1) (n - 1 - xs.getD (k * 3) 0)).set (k * 3 + 2) (xs.getD (k * 3 + 2) 0) = turM n xs m (k + 1) := by
  unfold turM
  rw [show m * 3 - k * 3 = (m * 3 - (k + 1) * 3) + 3 by omega, set_three _ _ _ _ _ _ (turL_len n xs k)]
  rfl
def tuN (n : Int) (m : Nat) (xs : List Int) : Nat := if netB n m xs then m else 0
def tuL (n : Int) (m : Nat) (xs : List Int) : List Int := if netB n m xs then turL n xs m else []
theorem tuN_le (n : Int) (m : Nat) (xs : List Int) : tuN n m xs ≤ 1000000 := by
  unfold tuN
  split
  · rename_i h; have := net_true h; omega
  · omega
/-- A list of edges and a bool. -/
def GivesP2 (w : World) (n : Nat) (xs : List Int) (b : Bool) (e : Ending) (w' : World) : Prop := ∃ v, e = .returned (.tuple #[v, .bool b]) ∧ RowP w' w.heap.size v n xs ∧ Below w.heap.size w w'
theorem edgP_snoc {w : World} {B k : Nat} {v : Value} {P : List Int} {a b c : Int} (h : w.ownsRow B 93 3 v (k + 1) (ints P ++ [.int .i64 a, .int .i64 b, .int .i64 c])) : RowP w B v (k + 1) (P ++ [a, b, c]) := by
  unfold RowP
  rw [show ints (P ++ [a, b, c]) = ints P ++ [.int .i64 a, .int .i64 b, .int .i64 c] by simp [ints]]
  exact h
theorem RowP.nil (w : World) (B : Nat) : RowP w B (.slice none 0 0) 0 [] := World.ownsRow_nil _ _ _ _

end Go.Proofs.Ytoakpepoopjlaaa
