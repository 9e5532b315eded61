/-
  Go's quotient led down where the signs differ: plain, and in the model.
-/
import Derived.Test.YtdgkgnlilcbggaaDoorM1
import Derived.WalkLawsBesides
namespace Go.Proofs.YtdgkgnlilcbggaaDoor
open Go.RowKit
set_option linter.unusedVariables false

/-- Go's quotient, led down where the signs differ. -/
def dn (a b : Int) : Int := if a.tmod b ≠ 0 ∧ (decide (a < 0) != decide (b < 0)) = true then a.tdiv b - 1 else a.tdiv b
theorem dn_zero {a b : Int} (h : a.tmod b = 0) : dn a b = a.tdiv b := by unfold dn; rw [if_neg (fun hh => hh.1 h)]
theorem dn_same {a b : Int} (h : (a < 0) ↔ (b < 0)) : dn a b = a.tdiv b := by
  unfold dn
  have e : decide (a < 0) = decide (b < 0) := by simp [h]
  rw [e]
  simp
theorem dn_down {a b : Int} (h0 : a.tmod b ≠ 0) (h : ¬ ((a < 0) ↔ (b < 0))) : dn a b = a.tdiv b - 1 := by
  unfold dn
  refine if_pos ⟨h0, ?_⟩
  by_cases h1 : a < 0 <;> by_cases h2 : b < 0 <;> simp_all
theorem dn_pos (a : Int) : dn a 10000 = a / 10000 := by
  by_cases h : 0 ≤ a
  · rw [dn_same (by omega)]
    exact Int.tdiv_eq_ediv_of_nonneg h
  · by_cases hd : (10000 : Int) ∣ a
    · have hz : a.tmod 10000 = 0 := Int.tmod_eq_zero_of_dvd hd
      rw [dn_zero hz, Int.tdiv_eq_ediv, if_pos (Or.inr hd), Int.add_zero]
    · have hz : a.tmod 10000 ≠ 0 := fun e => hd (Int.dvd_of_tmod_eq_zero e)
      rw [dn_down hz (by omega), Int.tdiv_eq_ediv, if_neg (by intro hh; rcases hh with hh | hh; exact h hh; exact hd hh)]
      have : Int.sign 10000 = 1 := rfl
      omega
theorem tdiv_box {a b : Int} {M : Nat} (h : a.natAbs ≤ M) : -(M : Int) ≤ a.tdiv b ∧ a.tdiv b ≤ (M : Int) := by
  have : (a.tdiv b).natAbs ≤ M := by
    rw [Int.natAbs_tdiv]
    exact Nat.le_trans (Nat.div_le_self _ _) h
  omega

end Go.Proofs.YtdgkgnlilcbggaaDoor
