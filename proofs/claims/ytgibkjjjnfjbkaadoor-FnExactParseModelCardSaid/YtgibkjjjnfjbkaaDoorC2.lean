/-
  More contracts of chapter 1: places of blocks, and what is reckoned from them.
-/
import Derived.Test.YtgibkjjjnfjbkaaDoorC1
import Derived.Test.YtgibkjjjnfjbkaaDoorGrow
namespace Go.Proofs.YtgibkjjjnfjbkaaDoor
open Go.RowKit

theorem div_box {i x : Int} (hx : 1 ≤ x) (hi : 0 ≤ i) : 0 ≤ i / x ∧ i / x ≤ i := ⟨Int.ediv_nonneg hi (by omega), Int.ediv_le_self _ hi⟩
theorem mod_box {i x : Int} (hx : 1 ≤ x) : 0 ≤ i % x ∧ i % x < x := ⟨Int.emod_nonneg _ (by omega), Int.emod_lt_of_pos _ (by omega)⟩

/-- The steps between two blocks. -/
def steps (x y i k : Int) : Int := ((i % x - k % x).natAbs : Int) + ((i / x % y - k / x % y).natAbs : Int) + ((i / x / y - k / x / y).natAbs : Int)

end Go.Proofs.YtgibkjjjnfjbkaaDoor
