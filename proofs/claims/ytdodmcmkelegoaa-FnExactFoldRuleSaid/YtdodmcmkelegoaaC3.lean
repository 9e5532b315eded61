/-
  Contracts of chapter 1: blocks of a grid, places, numbers of steps.
-/
import Derived.Test.YtdodmcmkelegoaaC2
namespace Go.Proofs.Ytdodmcmkelegoaa
open Go.RowKit

def hasB (x y z i : Int) : Bool := goodB x y z && decide (0 ≤ i ∧ i < x * y * z)
theorem has_true {x y z i : Int} (h : hasB x y z i = true) : goodB x y z = true ∧ 0 ≤ i ∧ i < x * y * z := by
  unfold hasB at h; simp at h; exact h

theorem good_box {x y z : Int} (h : goodB x y z = true) : 1 ≤ x ∧ x ≤ 8 ∧ 1 ≤ y ∧ y ≤ 6 ∧ 1 ≤ z ∧ z ≤ 5 ∧ 0 ≤ x * y ∧ x * y ≤ 48 ∧ 0 ≤ x * y * z ∧ x * y * z ≤ 120 := by
  obtain ⟨a, b, c, d, e, f, g⟩ := good_true h
  obtain ⟨p1, p2⟩ := mul_box (a := x) (b := y) (m := 8) (n := 6) (by omega) b (by omega) d
  obtain ⟨q1, q2⟩ := mul_box (a := x * y) (b := z) (m := 48) (n := 5) p1 p2 (by omega) f
  exact ⟨a, b, c, d, e, f, p1, p2, q1, g⟩

set_option maxHeartbeats 400000 in
theorem c_isBlock (x y z i : Int) (w : World) : Calls Try.prog 66 #[.agg #[.int .i64 x, .int .i64 y, .int .i64 z], .int .i64 i] w fun e w' => e = .returned (.bool (hasB x y z i)) ∧ Below w.heap.size w w' := by
  cases hg : goodB x y z
  · have hr : hasB x y z i = false := by unfold hasB; rw [hg]; rfl
    rw [hr]; clear hr
    go_enter Try.func66, Try.ntmps66
    go_wp2_with (go_at_call 114; refine (c_IsGrid _ _ _ _).mono ?_; rintro e w1 ⟨rfl, hb1⟩)
    go_ret
    exact ⟨rfl, ((Below.refl _ _).alloc (Nat.le_refl _) _).trans (hb1.mono (by simp))⟩
  · obtain ⟨a, b, c, d, f, g, p1, p2, q1, q2⟩ := good_box hg
    by_cases hi : 0 ≤ i
    · have hr : hasB x y z i = decide (i < x * y * z) := by unfold hasB; rw [hg, Bool.true_and]; exact decide_eq_decide.2 (by omega)
      rw [hr]; clear hr
      go_enter Try.func66, Try.ntmps66
      go_wp2_with fail
      refine (c_IsGrid _ _ _ _).mono ?_
      rintro e w1 ⟨rfl, hb1⟩
      obtain ⟨hc1, hf1⟩ := bcell hb1
      have s1 := hb1.size
      simp at s1
      go_wp2_with fail
      refine (c_countBlocks _ _ _ _ (by omega) b (by omega) d (by omega) g).mono ?_
      rintro e w2 ⟨rfl, hb2⟩
      have s2 := hb2.size
      go_wp2
      go_ret
      exact ⟨rfl, (((Below.refl _ _).alloc (Nat.le_refl _) _).trans (hb1.mono (by simp))).trans (hb2.mono (by omega))⟩
    · have hr : hasB x y z i = false := by unfold hasB; rw [hg, Bool.true_and]; exact decide_eq_false (by omega)
      rw [hr]; clear hr
      go_enter Try.func66, Try.ntmps66
      go_wp2_with (go_at_call 114; refine (c_IsGrid _ _ _ _).mono ?_; rintro e w1 ⟨rfl, hb1⟩)
      go_ret
      exact ⟨rfl, ((Below.refl _ _).alloc (Nat.le_refl _) _).trans (hb1.mono (by simp))⟩

def inB (x y z a b c : Int) : Bool := decide ((0 ≤ a ∧ a < x) ∧ (0 ≤ b ∧ b < y) ∧ 0 ≤ c ∧ c < z)

def atV (x y z a b c : Int) : Int := if inB x y z a b c then (c * y + b) * x + a else -1

theorem at_box {x y z a b c : Int} (hx2 : x ≤ 8) (hy2 : y ≤ 6) (hz2 : z ≤ 5) (h : (0 ≤ a ∧ a < x) ∧ (0 ≤ b ∧ b < y) ∧ 0 ≤ c ∧ c < z) : 0 ≤ c * y ∧ c * y ≤ 30 ∧ 0 ≤ (c * y + b) * x ∧ (c * y + b) * x ≤ 288 := by
  obtain ⟨⟨a1, a2⟩, ⟨b1, b2⟩, c1, c2⟩ := h
  obtain ⟨p1, p2⟩ := mul_box (a := c) (b := y) (m := 5) (n := 6) c1 (by omega) (by omega) hy2
  obtain ⟨q1, q2⟩ := mul_box (a := c * y + b) (b := x) (m := 36) (n := 8) (by omega) (by omega) (by omega) hx2
  exact ⟨p1, p2, q1, q2⟩

end Go.Proofs.Ytdodmcmkelegoaa
