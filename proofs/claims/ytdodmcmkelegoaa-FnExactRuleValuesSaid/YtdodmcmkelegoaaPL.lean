/-
  Lists of the first values of a function; how many blocks a model has: plain.
-/
import Derived.Test.YtdodmcmkelegoaaM5
namespace Go.Proofs.Ytdodmcmkelegoaa
open Go.RowKit
set_option linter.unusedVariables false

/-- The first j values of f, zeros behind them. -/
def partL (f : Nat → Int) (n j : Nat) : List Int := (List.range n).map fun k => if k < j then f k else 0
theorem partL_len (f : Nat → Int) (n j : Nat) : (partL f n j).length = n := by simp [partL]
theorem partL_zero (f : Nat → Int) (n : Nat) : partL f n 0 = List.replicate n 0 := by
  apply List.ext_getElem
  · simp [partL]
  · intro t h1 h2
    simp [partL]
theorem partL_set (f : Nat → Int) (n j : Nat) : (partL f n j).set j (f j) = partL f n (j + 1) := by
  apply List.ext_getElem
  · simp [partL]
  · intro t h1 h2
    simp only [partL, List.getElem_set, List.getElem_map, List.getElem_range]
    by_cases e : j = t
    · subst e; simp
    · simp only [e, if_false]
      by_cases l : t < j
      · rw [if_pos l, if_pos (by omega)]
      · rw [if_neg l, if_neg (by omega)]
/-- The first j values of f. -/
def firL (f : Nat → Int) (j : Nat) : List Int := (List.range j).map f
theorem firL_len (f : Nat → Int) (j : Nat) : (firL f j).length = j := by simp [firL]
theorem firL_succ (f : Nat → Int) (j : Nat) : firL f (j + 1) = firL f j ++ [f j] := by simp [firL, List.range_succ]
theorem partL_all (f : Nat → Int) (n : Nat) : partL f n n = firL f n := by
  apply List.ext_getElem
  · simp [partL, firL]
  · intro t h1 h2
    simp [partL] at h1
    simp [partL, firL, h1]

theorem mo_len {x y z : Int} {ts gs rs : List Int} (h : moB x y z ts gs rs = true) : ts.length ≤ 120 ∧ (ts.length : Int) = x * y * z := by
  obtain ⟨_, _, _, _, _, _, _, _, q1, q2⟩ := good_box (mo_true h).1
  have := (mo_true h).2.1
  omega
end Go.Proofs.Ytdodmcmkelegoaa
