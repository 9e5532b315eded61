/-
  Contracts of chapter 1: blocks of a grid, places, numbers of steps.
-/
import Derived.Test.YtgibkjjjnfjbkaaDoorC2
namespace Go.Proofs.YtgibkjjjnfjbkaaDoor
open Go.RowKit

def hasB (x y z i : Int) : Bool := goodB x y z && decide (0 ≤ i ∧ i < x * y * z)
theorem has_true {x y z i : Int} (h : hasB x y z i = true) : goodB x y z = true ∧ 0 ≤ i ∧ i < x * y * z := by
  unfold hasB at h; simp at h; exact h

theorem good_box {x y z : Int} (h : goodB x y z = true) : 1 ≤ x ∧ x ≤ 8 ∧ 1 ≤ y ∧ y ≤ 6 ∧ 1 ≤ z ∧ z ≤ 5 ∧ 0 ≤ x * y ∧ x * y ≤ 48 ∧ 0 ≤ x * y * z ∧ x * y * z ≤ 120 := by
  obtain ⟨a, b, c, d, e, f, g⟩ := good_true h
  obtain ⟨p1, p2⟩ := mul_box (a := x) (b := y) (m := 8) (n := 6) (by omega) b (by omega) d
  obtain ⟨q1, q2⟩ := mul_box (a := x * y) (b := z) (m := 48) (n := 5) p1 p2 (by omega) f
  exact ⟨a, b, c, d, e, f, p1, p2, q1, g⟩

def inB (x y z a b c : Int) : Bool := decide ((0 ≤ a ∧ a < x) ∧ (0 ≤ b ∧ b < y) ∧ 0 ≤ c ∧ c < z)

def atV (x y z a b c : Int) : Int := if inB x y z a b c then (c * y + b) * x + a else -1

theorem at_box {x y z a b c : Int} (hx2 : x ≤ 8) (hy2 : y ≤ 6) (hz2 : z ≤ 5) (h : (0 ≤ a ∧ a < x) ∧ (0 ≤ b ∧ b < y) ∧ 0 ≤ c ∧ c < z) : 0 ≤ c * y ∧ c * y ≤ 30 ∧ 0 ≤ (c * y + b) * x ∧ (c * y + b) * x ≤ 288 := by
  obtain ⟨⟨a1, a2⟩, ⟨b1, b2⟩, c1, c2⟩ := h
  obtain ⟨p1, p2⟩ := mul_box (a := c) (b := y) (m := 5) (n := 6) c1 (by omega) (by omega) hy2
  obtain ⟨q1, q2⟩ := mul_box (a := c * y + b) (b := x) (m := 36) (n := 8) (by omega) (by omega) (by omega) hx2
  exact ⟨p1, p2, q1, q2⟩

end Go.Proofs.YtgibkjjjnfjbkaaDoor
