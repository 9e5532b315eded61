/-
  Contracts: the model's standard templates.
-/
import Derived.Test.YtmimilchldjkbaaDoorL1
import Derived.Test.YtmimilchldjkbaaDoorAP
import Derived.Test.YtmimilchldjkbaaDoorO3
namespace Go.Proofs.YtmimilchldjkbaaDoor
open Go.RowKit
set_option linter.unusedVariables false

def absI (n : Int) : Int := max n (-n)
def hasS (k dx dy up : Int) : Bool :=
  if k = 1 then decide (up = 1 ∧ absI dx + absI dy = 0) else if k = 2 then decide (up = 1 ∧ absI dx + absI dy ≤ 1) else if k = 3 then decide (up = 1 ∧ absI dx ≤ 1 ∧ absI dy ≤ 1)
  else decide ((up = 1 ∧ absI dx + absI dy ≤ 1) ∨ (up = 2 ∧ absI dx + absI dy = 2 ∧ dx * dy = 0))
/-- The offsets of the first t places. -/
def stP (k : Nat) : Nat → List Int
  | 0 => []
  | t + 1 => stP k t ++ (if hasS k (((t % 5 : Nat) : Int) - 2) (((t / 5 % 5 : Nat) : Int) - 2) (((t / 25 : Nat) : Int) + 1) then [((t % 5 : Nat) : Int) - 2, ((t / 5 % 5 : Nat) : Int) - 2, ((t / 25 : Nat) : Int) + 1] else [])
theorem stP_all (k : Nat) (h : k = 1 ∨ k = 2 ∨ k = 3 ∨ k = 4) : stP k 50 = stdX k := by
  rcases h with rfl | rfl | rfl | rfl <;> decide +kernel
theorem stP_three (k : Nat) : ∀ t, (stP k t).length / 3 * 3 = (stP k t).length ∧ (stP k t).length ≤ 3 * t
  | 0 => ⟨by simp [stP], by simp [stP]⟩
  | t + 1 => by
    have ⟨a, b⟩ := stP_three k t
    rw [stP, List.length_append]
    split <;> simp <;> omega
theorem stP_go {k : Nat} {a b c : Nat} (hb : b < 5) (hc : c < 5) : stP k (a * 25 + b * 5 + c + 1) = stP k (a * 25 + b * 5 + c) ++ (if hasS k ((c : Int) - 2) ((b : Int) - 2) ((a : Int) + 1) then [(c : Int) - 2, (b : Int) - 2, (a : Int) + 1] else []) := by
  rw [stP, show (a * 25 + b * 5 + c) % 5 = c by omega, show (a * 25 + b * 5 + c) / 5 % 5 = b by omega, show (a * 25 + b * 5 + c) / 25 = a by omega]

set_option maxHeartbeats 400000 in
theorem c_l1MostD (a b : Int) (w : World) : Calls Tryd.prog 145 #[.int .i64 a, .int .i64 b] w fun e w' => e = .returned (.int .i64 (max a b)) ∧ w = w' := by
  by_cases h : b < a
  all_goals
    go_enter Tryd.func145, Tryd.ntmps145
    go_wp2
    go_ret
    exact ⟨ret_int (by omega), rfl⟩
set_option maxHeartbeats 400000 in
theorem c_l1Abs (n : Int) (w : World) (h1 : -100 ≤ n) (h2 : n ≤ 100) : Calls Tryd.prog 132 #[.int .i64 n] w fun e w' => e = .returned (.int .i64 (absI n)) ∧ w = w' := by
  have iw : IntKind.i64.wrap (-n) = -n := IntWalk.i64_in _ (by omega)
  go_enter Tryd.func132, Tryd.ntmps132
  go_wp2_with fail
  refine (c_l1MostD _ _ _).mono ?_
  rintro e w1 ⟨rfl, rfl⟩
  go_wp2
  go_ret
  exact ⟨rfl, rfl⟩

set_option maxHeartbeats 2000000 in
theorem c_slHas (k dx dy up : Int) (w : World) (k1 : 1 ≤ k) (k2 : k ≤ 4) (x1 : -2 ≤ dx) (x2 : dx ≤ 2) (y1 : -2 ≤ dy) (y2 : dy ≤ 2) (u1 : 1 ≤ up) (u2 : up ≤ 2) :
    Calls Tryd.prog 96 #[.int .i64 k, .int .i64 dx, .int .i64 dy, .int .i64 up] w fun e w' => e = .returned (.bool (hasS k dx dy up)) ∧ w = w' := by
  have CX : Hid (∀ u, Calls Tryd.prog 132 #[.int .i64 dx] u fun e w' => e = .returned (.int .i64 (absI dx)) ∧ u = w') := fun u => c_l1Abs dx u (by omega) (by omega)
  have CY : Hid (∀ u, Calls Tryd.prog 132 #[.int .i64 dy] u fun e w' => e = .returned (.int .i64 (absI dy)) ∧ u = w') := fun u => c_l1Abs dy u (by omega) (by omega)
  have HS : Hid (hasS k dx dy up = if k = 1 then decide (up = 1 ∧ absI dx + absI dy = 0) else if k = 2 then decide (up = 1 ∧ absI dx + absI dy ≤ 1) else if k = 3 then decide (up = 1 ∧ absI dx ≤ 1 ∧ absI dy ≤ 1)
    else decide ((up = 1 ∧ absI dx + absI dy ≤ 1) ∨ (up = 2 ∧ absI dx + absI dy = 2 ∧ dx * dy = 0))) := rfl
  generalize hasS k dx dy up = R at *
  have ax : 0 ≤ absI dx ∧ absI dx ≤ 2 := by unfold absI; omega
  have ay : 0 ≤ absI dy ∧ absI dy ≤ 2 := by unfold absI; omega
  have hp : -4 ≤ dx * dy ∧ dx * dy ≤ 4 := by
    rcases (show dx = -2 ∨ dx = -1 ∨ dx = 0 ∨ dx = 1 ∨ dx = 2 by omega) with rfl | rfl | rfl | rfl | rfl <;> omega
  have iw : IntKind.i64.wrap (dx * dy) = dx * dy := IntWalk.i64_in _ (by omega)
  generalize absI dx = a at *
  generalize absI dy = b at *
  have iv : IntKind.i64.wrap (a + b) = a + b := IntWalk.i64_in _ (by omega)
  rcases (show k = 1 ∨ k = 2 ∨ k = 3 ∨ k = 4 by omega) with rfl | rfl | rfl | rfl
  · have HR : Hid (R = decide (up = 1 ∧ a + b = 0)) := HS.out
    clear HS
    go_enter Tryd.func96, Tryd.ntmps96
    go_wp2_with fail
    refine (CX.out _).mono ?_
    rintro e w1 ⟨rfl, rfl⟩
    go_wp2_with fail
    refine (CY.out _).mono ?_
    rintro e w1 ⟨rfl, rfl⟩
    go_wp2
    all_goals
      go_ret
      exact ⟨ret_bool (by rw [HR.out]; first | (rw [Bool.eq_iff_iff]; simp; done) | (rw [Bool.eq_iff_iff]; simp; omega) | (exact decide_eq_decide.2 (by omega)) | (symm; exact decide_eq_false (by omega)) | (symm; exact decide_eq_true (by omega))), rfl⟩
  · have HR : Hid (R = decide (up = 1 ∧ a + b ≤ 1)) := HS.out
    clear HS
    go_enter Tryd.func96, Tryd.ntmps96
    go_wp2_with fail
    refine (CX.out _).mono ?_
    rintro e w1 ⟨rfl, rfl⟩
    go_wp2_with fail
    refine (CY.out _).mono ?_
    rintro e w1 ⟨rfl, rfl⟩
    go_wp2
    all_goals
      go_ret
      exact ⟨ret_bool (by rw [HR.out]; first | (rw [Bool.eq_iff_iff]; simp; done) | (rw [Bool.eq_iff_iff]; simp; omega) | (exact decide_eq_decide.2 (by omega)) | (symm; exact decide_eq_false (by omega)) | (symm; exact decide_eq_true (by omega))), rfl⟩
  · have HR : Hid (R = decide (up = 1 ∧ a ≤ 1 ∧ b ≤ 1)) := HS.out
    clear HS
    by_cases h1 : up = 1
    · by_cases h2 : a ≤ 1
      · go_enter Tryd.func96, Tryd.ntmps96
        go_wp2_with fail
        refine (CX.out _).mono ?_
        rintro e w1 ⟨rfl, rfl⟩
        go_wp2_with fail
        refine (CY.out _).mono ?_
        rintro e w1 ⟨rfl, rfl⟩
        go_wp2_with fail
        refine (CX.out _).mono ?_
        rintro e w1 ⟨rfl, rfl⟩
        go_wp2_with fail
        refine (CY.out _).mono ?_
        rintro e w1 ⟨rfl, rfl⟩
        go_wp2
        all_goals
          go_ret
          exact ⟨ret_bool (by rw [HR.out]; first | (rw [Bool.eq_iff_iff]; simp; done) | (rw [Bool.eq_iff_iff]; simp; omega) | (exact decide_eq_decide.2 (by omega)) | (symm; exact decide_eq_false (by omega)) | (symm; exact decide_eq_true (by omega))), rfl⟩
      · go_enter Tryd.func96, Tryd.ntmps96
        go_wp2_with fail
        refine (CX.out _).mono ?_
        rintro e w1 ⟨rfl, rfl⟩
        go_wp2_with fail
        refine (CY.out _).mono ?_
        rintro e w1 ⟨rfl, rfl⟩
        go_wp2_with fail
        refine (CX.out _).mono ?_
        rintro e w1 ⟨rfl, rfl⟩
        go_wp2
        all_goals
          go_ret
          exact ⟨ret_bool (by rw [HR.out]; first | (rw [Bool.eq_iff_iff]; simp; done) | (rw [Bool.eq_iff_iff]; simp; omega) | (exact decide_eq_decide.2 (by omega)) | (symm; exact decide_eq_false (by omega)) | (symm; exact decide_eq_true (by omega))), rfl⟩
    · go_enter Tryd.func96, Tryd.ntmps96
      go_wp2_with fail
      refine (CX.out _).mono ?_
      rintro e w1 ⟨rfl, rfl⟩
      go_wp2_with fail
      refine (CY.out _).mono ?_
      rintro e w1 ⟨rfl, rfl⟩
      go_wp2
      all_goals
        go_ret
        exact ⟨ret_bool (by rw [HR.out]; first | (rw [Bool.eq_iff_iff]; simp; done) | (rw [Bool.eq_iff_iff]; simp; omega) | (exact decide_eq_decide.2 (by omega)) | (symm; exact decide_eq_false (by omega)) | (symm; exact decide_eq_true (by omega))), rfl⟩
  · have HR : Hid (R = decide ((up = 1 ∧ a + b ≤ 1) ∨ (up = 2 ∧ a + b = 2 ∧ dx * dy = 0))) := HS.out
    clear HS
    go_enter Tryd.func96, Tryd.ntmps96
    go_wp2_with fail
    refine (CX.out _).mono ?_
    rintro e w1 ⟨rfl, rfl⟩
    go_wp2_with fail
    refine (CY.out _).mono ?_
    rintro e w1 ⟨rfl, rfl⟩
    go_wp2
    all_goals
      go_ret
      exact ⟨ret_bool (by rw [HR.out]; first | (rw [Bool.eq_iff_iff]; simp; done) | (rw [Bool.eq_iff_iff]; simp; omega) | (exact decide_eq_decide.2 (by omega)) | (symm; exact decide_eq_false (by omega)) | (symm; exact decide_eq_true (by omega))), rfl⟩
end Go.Proofs.YtmimilchldjkbaaDoor
