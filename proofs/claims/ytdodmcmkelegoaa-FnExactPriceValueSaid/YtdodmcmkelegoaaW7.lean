/-
  Contracts: the cut-off, in the program and in the model of it.
-/
import Derived.Test.YtdodmcmkelegoaaW6
namespace Go.Proofs.Ytdodmcmkelegoaa
open Go.RowKit
set_option linter.unusedVariables false

/-- The least whole number that pays (2000 if none does). -/
def cutG (p q r : Int) : Int := if q * p = 0 then (if r = 0 then 0 else 2000) else -((-(1000 * r)) / (q * p))
def cutB (p q r s : Int) : Bool := priB p q r s && decide (cutG p q r ≤ 1000)
def cutV (p q r s : Int) : Int := if cutB p q r s then cutG p q r else 0
theorem cut_box3 {p q : Int} (p0 : 0 ≤ p) (p1 : p ≤ 1000) (q0 : 0 ≤ q) (q1 : q ≤ 1000) : 0 ≤ q * p ∧ q * p ≤ 1000000 := by
  have a : q * p ≤ 1000 * p := Int.mul_le_mul_of_nonneg_right q1 p0
  exact ⟨Int.mul_nonneg q0 p0, by omega⟩
theorem cut_iff {p q r : Int} (p0 : 0 ≤ p) (q0 : 0 ≤ q) (r0 : 0 ≤ r) {k : Int} (k1 : k ≤ 1000) (k0 : 0 ≤ k) : 1000 * r ≤ k * q * p ↔ cutG p q r ≤ k := by
  unfold cutG
  rw [Int.mul_assoc]
  have hp : 0 ≤ q * p := Int.mul_nonneg q0 p0
  generalize q * p = m at *
  by_cases h : m = 0
  · rw [if_pos h, h, Int.mul_zero]
    by_cases hr : r = 0
    · rw [if_pos hr]; omega
    · rw [if_neg hr]; omega
  · rw [if_neg h]
    have a := quo_le (q := -k) (d := m) (n := -(1000 * r)) (by omega)
    rw [Int.neg_mul] at a
    omega
theorem cut_ge {p q r : Int} (p0 : 0 ≤ p) (q0 : 0 ≤ q) (r0 : 0 ≤ r) : 0 ≤ cutG p q r := by
  unfold cutG
  have hp : 0 ≤ q * p := Int.mul_nonneg q0 p0
  generalize q * p = m at *
  by_cases h : m = 0
  · rw [if_pos h]
    by_cases hr : r = 0
    · rw [if_pos hr]; omega
    · rw [if_neg hr]; omega
  · rw [if_neg h]
    have a : (-(1000 * r)) / m < 1 := Int.ediv_lt_of_lt_mul (by omega) (by omega)
    omega

end Go.Proofs.Ytdodmcmkelegoaa
