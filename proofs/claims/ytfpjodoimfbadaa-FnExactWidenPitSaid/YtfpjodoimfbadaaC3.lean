/-
  Contracts of chapter 1: blocks of a grid, places, numbers of steps.
-/
import Derived.Test.YtfpjodoimfbadaaC2
namespace Go.Proofs.Ytfpjodoimfbadaa
open Go.RowKit

def hasB (x y z i : Int) : Bool := goodB x y z && decide (0 ≤ i ∧ i < x * y * z)
theorem has_true {x y z i : Int} (h : hasB x y z i = true) : goodB x y z = true ∧ 0 ≤ i ∧ i < x * y * z := by
  unfold hasB at h; simp at h; exact h

theorem good_box {x y z : Int} (h : goodB x y z = true) : 1 ≤ x ∧ x ≤ 8 ∧ 1 ≤ y ∧ y ≤ 6 ∧ 1 ≤ z ∧ z ≤ 5 ∧ 0 ≤ x * y ∧ x * y ≤ 48 ∧ 0 ≤ x * y * z ∧ x * y * z ≤ 120 := by
  obtain ⟨a, b, c, d, e, f, g⟩ := good_true h
  obtain ⟨p1, p2⟩ := mul_box (a := x) (b := y) (m := 8) (n := 6) (by omega) b (by omega) d
  obtain ⟨q1, q2⟩ := mul_box (a := x * y) (b := z) (m := 48) (n := 5) p1 p2 (by omega) f
  exact ⟨a, b, c, d, e, f, p1, p2, q1, g⟩

def inB (x y z a b c : Int) : Bool := decide ((0 ≤ a ∧ a < x) ∧ (0 ≤ b ∧ b < y) ∧ 0 ≤ c ∧ c < z)

set_option maxHeartbeats 400000 in
theorem c_isPlace (x y z a b c : Int) (w : World) : Calls Try.prog 74 #[.agg #[.int .i64 x, .int .i64 y, .int .i64 z], .agg #[.int .i64 a, .int .i64 b, .int .i64 c]] w fun e w' => e = .returned (.bool (inB x y z a b c)) ∧ Below w.heap.size w w' := by
  have i0 := ix0 x y z
  have i1 := ix1 x y z
  have i2 := ix2 x y z
  by_cases h : (0 ≤ a ∧ a < x) ∧ (0 ≤ b ∧ b < y) ∧ 0 ≤ c ∧ c < z
  · have hr : inB x y z a b c = true := decide_eq_true h
    rw [hr]; clear hr
    obtain ⟨⟨a1, a2⟩, ⟨b1, b2⟩, c1, c2⟩ := h
    go_enter Try.func74, Try.ntmps74
    go_wp2
    go_rounds 4
    go_ret
    exact ⟨rfl, by go_grown⟩
  · have hr : inB x y z a b c = false := decide_eq_false h
    rw [hr]; clear hr
    go_enter Try.func74, Try.ntmps74
    go_wp2
    go_rounds 4
    all_goals first | (exfalso; omega) | (go_ret; exact ⟨rfl, by go_grown⟩)

def atV (x y z a b c : Int) : Int := if inB x y z a b c then (c * y + b) * x + a else -1

theorem at_box {x y z a b c : Int} (hx2 : x ≤ 8) (hy2 : y ≤ 6) (hz2 : z ≤ 5) (h : (0 ≤ a ∧ a < x) ∧ (0 ≤ b ∧ b < y) ∧ 0 ≤ c ∧ c < z) : 0 ≤ c * y ∧ c * y ≤ 30 ∧ 0 ≤ (c * y + b) * x ∧ (c * y + b) * x ≤ 288 := by
  obtain ⟨⟨a1, a2⟩, ⟨b1, b2⟩, c1, c2⟩ := h
  obtain ⟨p1, p2⟩ := mul_box (a := c) (b := y) (m := 5) (n := 6) c1 (by omega) (by omega) hy2
  obtain ⟨q1, q2⟩ := mul_box (a := c * y + b) (b := x) (m := 36) (n := 8) (by omega) (by omega) (by omega) hx2
  exact ⟨p1, p2, q1, q2⟩

set_option maxHeartbeats 400000 in
theorem c_grAt (x y z a b c : Int) (w : World) (hx1 : 1 ≤ x) (hx2 : x ≤ 8) (hy1 : 1 ≤ y) (hy2 : y ≤ 6) (hz1 : 1 ≤ z) (hz2 : z ≤ 5) : Calls Try.prog 52 #[.agg #[.int .i64 x, .int .i64 y, .int .i64 z], .int .i64 a, .int .i64 b, .int .i64 c] w fun e w' => e = .returned (.int .i64 (atV x y z a b c)) ∧ Below w.heap.size w w' := by
  by_cases h : (0 ≤ a ∧ a < x) ∧ (0 ≤ b ∧ b < y) ∧ 0 ≤ c ∧ c < z
  · have hr : atV x y z a b c = (c * y + b) * x + a := if_pos (decide_eq_true h)
    rw [hr]; clear hr
    obtain ⟨p1, p2, q1, q2⟩ := at_box hx2 hy2 hz2 h
    obtain ⟨⟨a1, a2⟩, ⟨b1, b2⟩, c1, c2⟩ := h
    have a3 : a ≤ x - 1 := by omega
    have b3 : b ≤ y - 1 := by omega
    have c3 : c ≤ z - 1 := by omega
    go_enter Try.func52, Try.ntmps52
    go_wp2
    go_ret
    exact ⟨rfl, by go_grown⟩
  · have hr : atV x y z a b c = -1 := if_neg (by rw [inB, decide_eq_true_eq]; exact h)
    rw [hr]; clear hr
    have hc : (a < 0 ∨ x - 1 < a) ∨ (0 ≤ a ∧ a ≤ x - 1) ∧ ((b < 0 ∨ y - 1 < b) ∨ (0 ≤ b ∧ b ≤ y - 1) ∧ (c < 0 ∨ z - 1 < c)) := by omega
    clear h
    rcases hc with (h1 | h1) | ⟨⟨h1, h2⟩, (h3 | h3) | ⟨⟨h3, h4⟩, h5 | h5⟩⟩
    all_goals
      (try have h6 : decide (c ≤ z - 1) = false := decide_eq_false (by omega))
      go_enter Try.func52, Try.ntmps52
      go_wp2
      all_goals first | (exfalso; omega) | (go_ret; exact ⟨rfl, by go_grown⟩)
end Go.Proofs.Ytfpjodoimfbadaa
