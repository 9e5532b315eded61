/-
  Contracts of the small functions of chapter 1 (program and model): what each call returns, and that nothing that was there is written.
-/
import Derived.Test.YtgibkjjjnfjbkaaDoorProg
import Derived.WalkKit
import Derived.WalkSpells
import Derived.WalkLawsBesides
import Derived.Handy
import Derived.BigRegion
namespace Go.Proofs.YtgibkjjjnfjbkaaDoor
open Go.RowKit

theorem bcell {W w1 : World} (hb : Below W.heap.size W w1) : (∀ b o, b < W.heap.size → w1.cell? ⟨b, o, none⟩ = W.cell? ⟨b, o, none⟩) ∧ (∀ b o, b < W.heap.size → w1.frozen? ⟨b, o, none⟩ = W.frozen? ⟨b, o, none⟩) :=
  ⟨fun b o h => hb.cell (p := ⟨b, o, none⟩) h, fun b o h => hb.frozen (p := ⟨b, o, none⟩) h⟩

def goodB (x y z : Int) : Bool := decide (1 ≤ x ∧ x ≤ 8 ∧ 1 ≤ y ∧ y ≤ 6 ∧ 1 ≤ z ∧ z ≤ 5 ∧ x * y * z ≤ 120)
theorem good_true {x y z : Int} (h : goodB x y z = true) : 1 ≤ x ∧ x ≤ 8 ∧ 1 ≤ y ∧ y ≤ 6 ∧ 1 ≤ z ∧ z ≤ 5 ∧ x * y * z ≤ 120 := of_decide_eq_true h
theorem good_mk {x y z : Int} (h : 1 ≤ x ∧ x ≤ 8 ∧ 1 ≤ y ∧ y ≤ 6 ∧ 1 ≤ z ∧ z ≤ 5 ∧ x * y * z ≤ 120) : goodB x y z = true := decide_eq_true h
theorem good_no {x y z : Int} (h : ¬ (1 ≤ x ∧ x ≤ 8 ∧ 1 ≤ y ∧ y ≤ 6 ∧ 1 ≤ z ∧ z ≤ 5 ∧ x * y * z ≤ 120)) : goodB x y z = false := decide_eq_false h
theorem mul_box {a b m n : Int} (a0 : 0 ≤ a) (am : a ≤ m) (b0 : 0 ≤ b) (bn : b ≤ n) : 0 ≤ a * b ∧ a * b ≤ m * n :=
  ⟨Int.mul_nonneg a0 b0, Int.mul_le_mul am bn b0 (by omega)⟩
theorem ret_int {k : IntKind} {a b : Int} (h : a = b) : Ending.returned (.int k a) = .returned (.int k b) := by rw [h]
theorem ret_bool {a b : Bool} (h : a = b) : Ending.returned (.bool a) = .returned (.bool b) := by rw [h]

set_option maxHeartbeats 400000 in
theorem c_l1In (n lo hi : Int) (w : World) : Calls Tryd.prog 20 #[.int .i64 n, .int .i64 lo, .int .i64 hi] w fun e w' => e = .returned (.bool (decide (lo ≤ n ∧ n ≤ hi))) ∧ w = w' := by
  by_cases h1 : lo ≤ n
  · by_cases h2 : n ≤ hi
    all_goals
      go_enter Tryd.func20, Tryd.ntmps20
      go_wp2
      go_ret
      exact ⟨ret_bool (by simp; omega), rfl⟩
  · go_enter Tryd.func20, Tryd.ntmps20
    go_wp2
    go_ret
    exact ⟨ret_bool (by simp; omega), rfl⟩

set_option maxHeartbeats 400000 in
theorem c_grGood (x y z : Int) (w : World) : Calls Tryd.prog 21 #[.agg #[.int .i64 x, .int .i64 y, .int .i64 z]] w fun e w' => e = .returned (.bool (goodB x y z)) ∧ Below w.heap.size w w' := by
  by_cases h : (1 ≤ x ∧ x ≤ 8) ∧ (1 ≤ y ∧ y ≤ 6) ∧ 1 ≤ z ∧ z ≤ 5
  · obtain ⟨⟨hx1, hx2⟩, ⟨hy1, hy2⟩, hz1, hz2⟩ := h
    obtain ⟨p1, p2⟩ := mul_box (a := x) (b := y) (m := 8) (n := 6) (by omega) hx2 (by omega) hy2
    obtain ⟨q1, q2⟩ := mul_box (a := x * y) (b := z) (m := 48) (n := 5) p1 p2 (by omega) hz2
    go_enter Tryd.func21, Tryd.ntmps21
    go_wp2
    go_ret
    exact ⟨ret_bool (by unfold goodB; exact decide_eq_decide.2 (by omega)), by go_grown⟩
  · have hn : goodB x y z = false := good_no (by omega)
    rw [hn]
    clear hn
    go_enter Tryd.func21, Tryd.ntmps21
    go_wp2
    all_goals first | (exfalso; omega) | (go_ret; exact ⟨rfl, by go_grown⟩)

set_option maxHeartbeats 400000 in
theorem c_sizesOf (x y z : Int) (w : World) : Calls Tryd.prog 35 #[.agg #[.int .i64 x, .int .i64 y, .int .i64 z]] w fun e w' => e = .returned (.agg #[.int .i64 x, .int .i64 y, .int .i64 z]) ∧ Below w.heap.size w w' := by
  go_enter Tryd.func35, Tryd.ntmps35
  go_wp2
  refine bodyPost_ret (v := .agg #[.int .i64 x, .int .i64 y, .int .i64 z]) (by simp [results, Tryd.results35, go_sem]) rfl ⟨rfl, ?_⟩
  go_grown

set_option maxHeartbeats 400000 in
theorem c_countBlocks (x y z : Int) (w : World) (hx1 : 0 ≤ x) (hx2 : x ≤ 8) (hy1 : 0 ≤ y) (hy2 : y ≤ 6) (hz1 : 0 ≤ z) (hz2 : z ≤ 5) : Calls Tryd.prog 29 #[.agg #[.int .i64 x, .int .i64 y, .int .i64 z]] w fun e w' => e = .returned (.int .i64 (x * y * z)) ∧ Below w.heap.size w w' := by
  obtain ⟨p1, p2⟩ := mul_box (a := x) (b := y) (m := 8) (n := 6) (by omega) hx2 (by omega) hy2
  obtain ⟨q1, q2⟩ := mul_box (a := x * y) (b := z) (m := 48) (n := 5) p1 p2 (by omega) hz2
  go_enter Tryd.func29, Tryd.ntmps29
  go_wp2
  go_ret
  exact ⟨rfl, by go_grown⟩

set_option maxHeartbeats 400000 in
theorem c_grCount (x y z : Int) (w : World) (hx1 : 0 ≤ x) (hx2 : x ≤ 8) (hy1 : 0 ≤ y) (hy2 : y ≤ 6) (hz1 : 0 ≤ z) (hz2 : z ≤ 5) : Calls Tryd.prog 22 #[.agg #[.int .i64 x, .int .i64 y, .int .i64 z]] w fun e w' => e = .returned (.int .i64 (x * y * z)) ∧ Below w.heap.size w w' := by
  obtain ⟨p1, p2⟩ := mul_box (a := x) (b := y) (m := 8) (n := 6) (by omega) hx2 (by omega) hy2
  obtain ⟨q1, q2⟩ := mul_box (a := x * y) (b := z) (m := 48) (n := 5) p1 p2 (by omega) hz2
  go_enter Tryd.func22, Tryd.ntmps22
  go_wp2
  go_ret
  exact ⟨rfl, by go_grown⟩

theorem ix0 (a b c : Int) (w : World) : (Instr.index 66 (.agg #[.int .i64 a, .int .i64 b, .int .i64 c]) (.int .i64 0)).run Tryd.prog w = .ok (.int .i64 a) w := by kernel_rfl
theorem ix1 (a b c : Int) (w : World) : (Instr.index 66 (.agg #[.int .i64 a, .int .i64 b, .int .i64 c]) (.int .i64 1)).run Tryd.prog w = .ok (.int .i64 b) w := by kernel_rfl
theorem ix2 (a b c : Int) (w : World) : (Instr.index 66 (.agg #[.int .i64 a, .int .i64 b, .int .i64 c]) (.int .i64 2)).run Tryd.prog w = .ok (.int .i64 c) w := by kernel_rfl

set_option maxHeartbeats 400000 in
theorem c_IsGrid (x y z : Int) (w : World) : Calls Tryd.prog 28 #[.agg #[.int .i64 x, .int .i64 y, .int .i64 z]] w fun e w' => e = .returned (.bool (goodB x y z)) ∧ Below w.heap.size w w' := by
  have i0 := ix0 x y z
  have i1 := ix1 x y z
  have i2 := ix2 x y z
  by_cases h : (1 ≤ x ∧ x ≤ 8) ∧ (1 ≤ y ∧ y ≤ 6) ∧ 1 ≤ z ∧ z ≤ 5
  · obtain ⟨⟨hx1, hx2⟩, ⟨hy1, hy2⟩, hz1, hz2⟩ := h
    obtain ⟨p1, p2⟩ := mul_box (a := x) (b := y) (m := 8) (n := 6) (by omega) hx2 (by omega) hy2
    obtain ⟨q1, q2⟩ := mul_box (a := x * y) (b := z) (m := 48) (n := 5) p1 p2 (by omega) hz2
    go_enter Tryd.func28, Tryd.ntmps28
    go_wp2
    go_rounds 4
    go_ret
    exact ⟨ret_bool (by unfold goodB; exact decide_eq_decide.2 (by omega)), by go_grown⟩
  · have hn : goodB x y z = false := good_no (by omega)
    rw [hn]
    clear hn
    go_enter Tryd.func28, Tryd.ntmps28
    go_wp2
    go_rounds 4
    all_goals first | (exfalso; omega) | (go_ret; exact ⟨rfl, by go_grown⟩)
end Go.Proofs.YtgibkjjjnfjbkaaDoor
