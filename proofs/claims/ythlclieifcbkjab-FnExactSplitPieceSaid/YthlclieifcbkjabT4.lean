/-
  Contracts: comparisons of numbers and of pieces by their grades, in the program and in the model.
-/
import Derived.Test.YthlclieifcbkjabQ1
import Derived.Test.YthlclieifcbkjabC2
namespace Go.Proofs.Ythlclieifcbkjab
open Go.RowKit
set_option linter.unusedVariables false

def cmpI (a b : Int) : Int := if a < b then -1 else if b < a then 1 else 0
theorem cmpI_neg (a b : Int) : (cmpI a b < 0) ↔ a < b := by unfold cmpI; split <;> (try split) <;> omega

set_option maxHeartbeats 1000000 in
theorem c_Compare (a b : Int) (w : World) : Calls Try.prog 42 #[.int .i64 a, .int .i64 b] w fun e w' => e = .returned (.int .i64 (cmpI a b)) ∧ w = w' := by
  have hn : ∀ (x : Int) (u : World), Calls Try.prog 52 #[.int .i64 x] u fun e w' => e = .returned (.bool false) ∧ u = w' := fun x u => by
    have hx : (x != x) = false := by simp
    go_enter Try.func52, Try.ntmps52
    go_wp2
    go_ret
    exact ⟨rfl, rfl⟩
  have HN := Lib.hid hn
  clear hn
  unfold cmpI
  by_cases h1 : a < b
  · rw [if_pos h1]
    go_enter Try.func42, Try.ntmps42
    go_wp2_with fail
    refine (HN.out _ _).mono ?_
    rintro e w1 ⟨rfl, rfl⟩
    go_wp2_with fail
    refine (HN.out _ _).mono ?_
    rintro e w1 ⟨rfl, rfl⟩
    go_wp2
    go_ret
    exact ⟨rfl, rfl⟩
  · rw [if_neg h1]
    by_cases h2 : b < a
    · rw [if_pos h2]
      go_enter Try.func42, Try.ntmps42
      go_wp2_with fail
      refine (HN.out _ _).mono ?_
      rintro e w1 ⟨rfl, rfl⟩
      go_wp2_with fail
      refine (HN.out _ _).mono ?_
      rintro e w1 ⟨rfl, rfl⟩
      go_wp2
      go_ret
      exact ⟨rfl, rfl⟩
    · rw [if_neg h2]
      go_enter Try.func42, Try.ntmps42
      go_wp2_with fail
      refine (HN.out _ _).mono ?_
      rintro e w1 ⟨rfl, rfl⟩
      go_wp2_with fail
      refine (HN.out _ _).mono ?_
      rintro e w1 ⟨rfl, rfl⟩
      go_wp2
      go_ret
      exact ⟨rfl, rfl⟩

/-- How pieces of t tonnes, m metal and of t', m' compare by their grades. -/
def cgI (t m t' m' : Int) : Int := if t = 0 ∨ t' = 0 then cmpI (min t' 1) (min t 1) else cmpI (m' * t) (m * t')

set_option maxHeartbeats 1000000 in
theorem c_compareGrades (t m r t' m' r' : Int) (w : World) (t0 : 0 ≤ t) (t1 : t ≤ 10000) (m0 : 0 ≤ m) (m1 : m ≤ 10000000) (u0 : 0 ≤ t') (u1 : t' ≤ 10000) (k0 : 0 ≤ m') (k1 : m' ≤ 10000000) :
    Calls Try.prog 27 #[.agg #[.int .i64 t, .int .i64 m, .int .i64 r], .agg #[.int .i64 t', .int .i64 m', .int .i64 r']] w fun e w' => e = .returned (.int .i64 (cgI t m t' m')) ∧ Below w.heap.size w w' := by
  obtain ⟨p0, p1⟩ := mul_box k0 k1 t0 t1
  obtain ⟨q0, q1⟩ := mul_box m0 m1 u0 u1
  unfold cgI
  by_cases h : t = 0 ∨ t' = 0
  · rw [if_pos h]
    clear p0 p1 q0 q1
    by_cases h1 : t = 0
    · subst h1
      go_enter Try.func27, Try.ntmps27
      go_wp2_with fail
      all_goals
        refine (c_Compare _ _ _).mono ?_
        rintro e w1 ⟨rfl, rfl⟩
        go_wp2
        go_ret
        exact ⟨ret_int (by congr 1 <;> omega), by go_grown⟩
    · have h2 : t' = 0 := by omega
      subst h2
      have h3 : (t == 0) = false := by simpa using h1
      go_enter Try.func27, Try.ntmps27
      go_wp2_with fail
      all_goals
        refine (c_Compare _ _ _).mono ?_
        rintro e w1 ⟨rfl, rfl⟩
        go_wp2
        go_ret
        exact ⟨ret_int (by congr 1 <;> omega), by go_grown⟩
  · rw [if_neg h]
    have h3 : (t == 0) = false := by simp; omega
    have h4 : (t' == 0) = false := by simp; omega
    go_enter Try.func27, Try.ntmps27
    go_wp2_with fail
    refine (c_Compare _ _ _).mono ?_
    rintro e w1 ⟨rfl, rfl⟩
    go_wp2
    go_ret
    exact ⟨rfl, by go_grown⟩

/-- Whether a piece comes before another one by its grade. -/
def richB (t m t' m' : Int) : Bool := decide (cgI t m t' m' < 0)
theorem rich_zero {t m t' m' : Int} (t0 : 0 ≤ t) (u0 : 0 ≤ t') (h : t = 0 ∨ t' = 0) : richB t m t' m' = (decide (0 < t) && (t' == 0)) := by
  unfold richB cgI
  rw [if_pos h]
  have e : decide (cmpI (min t' 1) (min t 1) < 0) = decide (min t' 1 < min t 1) := decide_eq_decide.2 (cmpI_neg _ _)
  rw [e]
  by_cases h1 : t = 0
  · subst h1
    rw [decide_eq_false (by omega)]
    simp
  · have h2 : t' = 0 := by omega
    subst h2
    rw [decide_eq_true (by omega), decide_eq_true (show 0 < t by omega)]
    rfl
theorem rich_some {t m t' m' : Int} (h : ¬ (t = 0 ∨ t' = 0)) : richB t m t' m' = decide (m' * t < m * t') := by
  unfold richB cgI
  rw [if_neg h]
  exact decide_eq_decide.2 (cmpI_neg _ _)

set_option maxHeartbeats 1000000 in
theorem c_sbRicher (t m r t' m' r' : Int) (w : World) (t0 : 0 ≤ t) (t1 : t ≤ 10000) (m0 : 0 ≤ m) (m1 : m ≤ 10000000) (u0 : 0 ≤ t') (u1 : t' ≤ 10000) (k0 : 0 ≤ m') (k1 : m' ≤ 10000000) :
    Calls Try.prog 39 #[.agg #[.int .i64 t, .int .i64 m, .int .i64 r], .agg #[.int .i64 t', .int .i64 m', .int .i64 r']] w fun e w' => e = .returned (.bool (richB t m t' m')) ∧ Below w.heap.size w w' := by
  obtain ⟨p0, p1⟩ := mul_box k0 k1 t0 t1
  obtain ⟨q0, q1⟩ := mul_box m0 m1 u0 u1
  by_cases h : t = 0 ∨ t' = 0
  · rw [rich_zero t0 u0 h]
    clear p0 p1 q0 q1
    by_cases h1 : t = 0
    · subst h1
      go_enter Try.func39, Try.ntmps39
      go_wp2
      go_ret
      exact ⟨ret_bool (by simp), by go_grown⟩
    · have h2 : t' = 0 := by omega
      subst h2
      have h3 : (t == 0) = false := by simpa using h1
      have h5 : 0 < t := by omega
      go_enter Try.func39, Try.ntmps39
      go_wp2
      go_ret
      exact ⟨ret_bool (by simp), by go_grown⟩
  · rw [rich_some h]
    have h3 : (t == 0) = false := by simp; omega
    have h4 : (t' == 0) = false := by simp; omega
    go_enter Try.func39, Try.ntmps39
    go_wp2
    go_ret
    exact ⟨rfl, by go_grown⟩
end Go.Proofs.Ythlclieifcbkjab
