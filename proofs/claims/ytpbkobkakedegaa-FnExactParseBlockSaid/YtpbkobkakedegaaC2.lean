/-
  More contracts of chapter 1: places of blocks, and what is reckoned from them.
-/
import Derived.Test.YtpbkobkakedegaaC1
import Derived.Test.YtpbkobkakedegaaGrow
namespace Go.Proofs.Ytpbkobkakedegaa
open Go.RowKit

theorem div_box {i x : Int} (hx : 1 ≤ x) (hi : 0 ≤ i) : 0 ≤ i / x ∧ i / x ≤ i := ⟨Int.ediv_nonneg hi (by omega), Int.ediv_le_self _ hi⟩
theorem mod_box {i x : Int} (hx : 1 ≤ x) : 0 ≤ i % x ∧ i % x < x := ⟨Int.emod_nonneg _ (by omega), Int.emod_lt_of_pos _ (by omega)⟩

set_option maxHeartbeats 400000 in
theorem c_grX (x y z i : Int) (w : World) (hx1 : 1 ≤ x) (hx2 : x ≤ 8) (hi1 : 0 ≤ i) (hi2 : i ≤ 1000) : Calls Try.prog 44 #[.agg #[.int .i64 x, .int .i64 y, .int .i64 z], .int .i64 i] w fun e w' => e = .returned (.int .i64 (i % x)) ∧ Below w.heap.size w w' := by
  have hm := mod_box (i := i) hx1
  go_enter Try.func44, Try.ntmps44
  go_wp2
  go_ret
  exact ⟨rfl, by go_grown⟩

set_option maxHeartbeats 400000 in
theorem c_grY (x y z i : Int) (w : World) (hx1 : 1 ≤ x) (hx2 : x ≤ 8) (hy1 : 1 ≤ y) (hy2 : y ≤ 6) (hi1 : 0 ≤ i) (hi2 : i ≤ 1000) : Calls Try.prog 45 #[.agg #[.int .i64 x, .int .i64 y, .int .i64 z], .int .i64 i] w fun e w' => e = .returned (.int .i64 (i / x % y)) ∧ Below w.heap.size w w' := by
  obtain ⟨hd1, hd2⟩ := div_box hx1 hi1
  obtain ⟨hm1, hm2⟩ := mod_box (i := i / x) hy1
  go_enter Try.func45, Try.ntmps45
  go_wp2
  go_region
  all_goals go_wp2
  all_goals (go_ret; exact ⟨rfl, by go_grown⟩)

set_option maxHeartbeats 400000 in
theorem c_grZ (x y z i : Int) (w : World) (hx1 : 1 ≤ x) (hx2 : x ≤ 8) (hy1 : 1 ≤ y) (hy2 : y ≤ 6) (hi1 : 0 ≤ i) (hi2 : i ≤ 1000) : Calls Try.prog 46 #[.agg #[.int .i64 x, .int .i64 y, .int .i64 z], .int .i64 i] w fun e w' => e = .returned (.int .i64 (i / x / y)) ∧ Below w.heap.size w w' := by
  obtain ⟨hd1, hd2⟩ := div_box hx1 hi1
  obtain ⟨he1, he2⟩ := div_box (i := i / x) hy1 hd1
  go_enter Try.func46, Try.ntmps46
  go_wp2
  go_region
  all_goals go_wp2
  all_goals (go_ret; exact ⟨rfl, by go_grown⟩)

set_option maxHeartbeats 400000 in
theorem c_findPlace (x y z i : Int) (w : World) (hx1 : 1 ≤ x) (hx2 : x ≤ 8) (hy1 : 1 ≤ y) (hy2 : y ≤ 6) (hi1 : 0 ≤ i) (hi2 : i ≤ 1000) : Calls Try.prog 48 #[.agg #[.int .i64 x, .int .i64 y, .int .i64 z], .int .i64 i] w fun e w' => e = .returned (.agg #[.int .i64 (i % x), .int .i64 (i / x % y), .int .i64 (i / x / y)]) ∧ Below w.heap.size w w' := by
  obtain ⟨hd1, hd2⟩ := div_box hx1 hi1
  obtain ⟨he1, he2⟩ := div_box (i := i / x) hy1 hd1
  obtain ⟨hm1, hm2⟩ := mod_box (i := i) hx1
  obtain ⟨hn1, hn2⟩ := mod_box (i := i / x) hy1
  go_enter Try.func48, Try.ntmps48
  go_wp2
  go_region
  all_goals go_wp2
  all_goals
    refine bodyPost_ret (v := .agg #[.int .i64 (i % x), .int .i64 (i / x % y), .int .i64 (i / x / y)]) (by simp [results, Try.results48, go_sem]) rfl ⟨rfl, ?_⟩
    go_grown

set_option maxHeartbeats 400000 in
theorem c_differenceOf (a b : Int) (w : World) (ha1 : 0 ≤ a) (ha2 : a ≤ 10000) (hb1 : 0 ≤ b) (hb2 : b ≤ 10000) : Calls Try.prog 63 #[.int .i64 a, .int .i64 b] w fun e w' => e = .returned (.int .i64 ((a - b).natAbs : Int)) ∧ w = w' := by
  by_cases h : a < b
  all_goals
    go_enter Try.func63, Try.ntmps63
    go_wp2
    go_ret
    exact ⟨ret_int (by omega), rfl⟩

set_option maxHeartbeats 400000 in
theorem c_l1Most (a b : Int) (w : World) : Calls Try.prog 64 #[.int .i64 a, .int .i64 b] w fun e w' => e = .returned (.int .i64 (max a b)) ∧ w = w' := by
  by_cases h : b < a
  all_goals
    go_enter Try.func64, Try.ntmps64
    go_wp2
    go_ret
    exact ⟨ret_int (by omega), rfl⟩

set_option maxHeartbeats 400000 in
theorem c_l1Abs (a : Int) (w : World) (ha1 : -10000 ≤ a) (ha2 : a ≤ 10000) : Calls Try.prog 62 #[.int .i64 a] w fun e w' => e = .returned (.int .i64 (a.natAbs : Int)) ∧ w = w' := by
  go_enter Try.func62, Try.ntmps62
  go_wp2_with (go_at_call 64; refine (c_l1Most _ _ _).mono ?_; rintro e w' ⟨rfl, rfl⟩)
  go_ret
  exact ⟨ret_int (by omega), rfl⟩

/-- The steps between two blocks. -/
def steps (x y i k : Int) : Int := ((i % x - k % x).natAbs : Int) + ((i / x % y - k / x % y).natAbs : Int) + ((i / x / y - k / x / y).natAbs : Int)

set_option maxHeartbeats 1000000 in
theorem c_grSteps (x y z i k : Int) (w : World) (hx1 : 1 ≤ x) (hx2 : x ≤ 8) (hy1 : 1 ≤ y) (hy2 : y ≤ 6) (hi1 : 0 ≤ i) (hi2 : i ≤ 1000) (hk1 : 0 ≤ k) (hk2 : k ≤ 1000) : Calls Try.prog 53 #[.agg #[.int .i64 x, .int .i64 y, .int .i64 z], .int .i64 i, .int .i64 k] w fun e w' => e = .returned (.int .i64 (steps x y i k)) ∧ Below w.heap.size w w' := by
  obtain ⟨hd1, hd2⟩ := div_box hx1 hi1
  obtain ⟨he1, he2⟩ := div_box (i := i / x) hy1 hd1
  obtain ⟨hm1, hm2⟩ := mod_box (i := i) hx1
  obtain ⟨hn1, hn2⟩ := mod_box (i := i / x) hy1
  obtain ⟨hd3, hd4⟩ := div_box hx1 hk1
  obtain ⟨he3, he4⟩ := div_box (i := k / x) hy1 hd3
  obtain ⟨hm3, hm4⟩ := mod_box (i := k) hx1
  obtain ⟨hn3, hn4⟩ := mod_box (i := k / x) hy1
  go_enter Try.func53, Try.ntmps53
  go_wp2
  refine wp_region_grow (by kernel_rfl) (by kernel_rfl) ?_
  repeat (go_big_quiet_step (first
    | (go_at_call 44; exact grow_of (c_grX _ _ _ _ _ hx1 hx2 (by assumption) (by assumption)))
    | (go_at_call 45; exact grow_of (c_grY _ _ _ _ _ hx1 hx2 hy1 hy2 (by assumption) (by assumption)))
    | (go_at_call 46; exact grow_of (c_grZ _ _ _ _ _ hx1 hx2 hy1 hy2 (by assumption) (by assumption)))
    | (go_at_call 62; exact grow_same (c_l1Abs _ _ (by omega) (by omega)))))
  refine wpQuiet_nil ?_
  intro _ hw'
  obtain ⟨u, hw''⟩ := hw'
  subst hw''
  have hb := wOf_below (w.alloc (.cells #[.int .i64 x, .int .i64 y, .int .i64 z] 25)) u
  generalize wOf (w.alloc (.cells #[.int .i64 x, .int .i64 y, .int .i64 z] 25)) u = w1 at hb ⊢
  go_wp2
  go_ret
  exact ⟨ret_int (by unfold steps; rfl), ((Below.refl _ _).alloc (Nat.le_refl _) _).trans (hb.mono (by simp))⟩
end Go.Proofs.Ytpbkobkakedegaa
