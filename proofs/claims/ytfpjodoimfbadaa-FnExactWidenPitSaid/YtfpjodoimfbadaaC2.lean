/-
  More contracts of chapter 1: places of blocks, and what is reckoned from them.
-/
import Derived.Test.YtfpjodoimfbadaaC1
import Derived.Test.YtfpjodoimfbadaaGrow
namespace Go.Proofs.Ytfpjodoimfbadaa
open Go.RowKit

theorem div_box {i x : Int} (hx : 1 ≤ x) (hi : 0 ≤ i) : 0 ≤ i / x ∧ i / x ≤ i := ⟨Int.ediv_nonneg hi (by omega), Int.ediv_le_self _ hi⟩
theorem mod_box {i x : Int} (hx : 1 ≤ x) : 0 ≤ i % x ∧ i % x < x := ⟨Int.emod_nonneg _ (by omega), Int.emod_lt_of_pos _ (by omega)⟩

set_option maxHeartbeats 400000 in
theorem c_grX (x y z i : Int) (w : World) (hx1 : 1 ≤ x) (hx2 : x ≤ 8) (hi1 : 0 ≤ i) (hi2 : i ≤ 1000) : Calls Try.prog 49 #[.agg #[.int .i64 x, .int .i64 y, .int .i64 z], .int .i64 i] w fun e w' => e = .returned (.int .i64 (i % x)) ∧ Below w.heap.size w w' := by
  have hm := mod_box (i := i) hx1
  go_enter Try.func49, Try.ntmps49
  go_wp2
  go_ret
  exact ⟨rfl, by go_grown⟩

set_option maxHeartbeats 400000 in
theorem c_grY (x y z i : Int) (w : World) (hx1 : 1 ≤ x) (hx2 : x ≤ 8) (hy1 : 1 ≤ y) (hy2 : y ≤ 6) (hi1 : 0 ≤ i) (hi2 : i ≤ 1000) : Calls Try.prog 50 #[.agg #[.int .i64 x, .int .i64 y, .int .i64 z], .int .i64 i] w fun e w' => e = .returned (.int .i64 (i / x % y)) ∧ Below w.heap.size w w' := by
  obtain ⟨hd1, hd2⟩ := div_box hx1 hi1
  obtain ⟨hm1, hm2⟩ := mod_box (i := i / x) hy1
  go_enter Try.func50, Try.ntmps50
  go_wp2
  go_region
  all_goals go_wp2
  all_goals (go_ret; exact ⟨rfl, by go_grown⟩)

set_option maxHeartbeats 400000 in
theorem c_grZ (x y z i : Int) (w : World) (hx1 : 1 ≤ x) (hx2 : x ≤ 8) (hy1 : 1 ≤ y) (hy2 : y ≤ 6) (hi1 : 0 ≤ i) (hi2 : i ≤ 1000) : Calls Try.prog 51 #[.agg #[.int .i64 x, .int .i64 y, .int .i64 z], .int .i64 i] w fun e w' => e = .returned (.int .i64 (i / x / y)) ∧ Below w.heap.size w w' := by
  obtain ⟨hd1, hd2⟩ := div_box hx1 hi1
  obtain ⟨he1, he2⟩ := div_box (i := i / x) hy1 hd1
  go_enter Try.func51, Try.ntmps51
  go_wp2
  go_region
  all_goals go_wp2
  all_goals (go_ret; exact ⟨rfl, by go_grown⟩)

set_option maxHeartbeats 400000 in
theorem c_findPlace (x y z i : Int) (w : World) (hx1 : 1 ≤ x) (hx2 : x ≤ 8) (hy1 : 1 ≤ y) (hy2 : y ≤ 6) (hi1 : 0 ≤ i) (hi2 : i ≤ 1000) : Calls Try.prog 55 #[.agg #[.int .i64 x, .int .i64 y, .int .i64 z], .int .i64 i] w fun e w' => e = .returned (.agg #[.int .i64 (i % x), .int .i64 (i / x % y), .int .i64 (i / x / y)]) ∧ Below w.heap.size w w' := by
  obtain ⟨hd1, hd2⟩ := div_box hx1 hi1
  obtain ⟨he1, he2⟩ := div_box (i := i / x) hy1 hd1
  obtain ⟨hm1, hm2⟩ := mod_box (i := i) hx1
  obtain ⟨hn1, hn2⟩ := mod_box (i := i / x) hy1
  go_enter Try.func55, Try.ntmps55
  go_wp2
  go_region
  all_goals go_wp2
  all_goals
    refine bodyPost_ret (v := .agg #[.int .i64 (i % x), .int .i64 (i / x % y), .int .i64 (i / x / y)]) (by simp [results, Try.results55, go_sem]) rfl ⟨rfl, ?_⟩
    go_grown

/-- The steps between two blocks. -/
def steps (x y i k : Int) : Int := ((i % x - k % x).natAbs : Int) + ((i / x % y - k / x % y).natAbs : Int) + ((i / x / y - k / x / y).natAbs : Int)

end Go.Proofs.Ytfpjodoimfbadaa
