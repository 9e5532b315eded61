/-
  Contracts: an estimate made exact: from any whole number near enough, the loops lead to the quotient rounded down.
-/
import Derived.Test.YtdodmcmkelegoaaW0
import Derived.Test.YtdodmcmkelegoaaW2
namespace Go.Proofs.Ytdodmcmkelegoaa
open Go.RowKit
set_option linter.unusedVariables false

theorem mulq_box {q d B : Int} (h1 : -B ≤ q) (h2 : q ≤ B) (d1 : 1 ≤ d) (d2 : d ≤ 1000000) : -(B * 1000000) ≤ q * d ∧ q * d ≤ B * 1000000 := by
  have hB : 0 ≤ B := by omega
  have a : q * d ≤ B * d := Int.mul_le_mul_of_nonneg_right h2 (by omega)
  have b : B * d ≤ B * 1000000 := Int.mul_le_mul_of_nonneg_left d2 hB
  have c : -B * d ≤ q * d := Int.mul_le_mul_of_nonneg_right h1 (by omega)
  rw [Int.neg_mul] at c
  omega
theorem quo_le {q d n : Int} (d1 : 1 ≤ d) : q * d ≤ n ↔ q ≤ n / d := (Int.le_ediv_iff_mul_le (by omega)).symm

set_option maxHeartbeats 2000000 in
theorem c_makeExact (x : Nat) (q0 n d : Int) (w : World) (hx : floatToIntVal .f64 x .i64 = some q0) (a1 : -4398046511104 ≤ q0) (a2 : q0 ≤ 4398046511104) (n1 : -40000000000000 ≤ n) (n2 : n ≤ 40000000000000) (d1 : 1 ≤ d) (d2 : d ≤ 1000000) (f1 : -4398046511103 ≤ n / d) (f2 : n / d ≤ 4398046511103) :
    Calls Try.prog 133 #[.float .f64 x, .int .i64 n, .int .i64 d] w fun e w' => e = .returned (.int .i64 (n / d)) ∧ w = w' := by
  have hc : ∀ (w : World), (convert 140 3 (.float .f64 x)).run Try.prog w = .ok (.int .i64 q0) w := fun w => run_convert_float_int w 140 3 .f64 .i64 x q0 (by rw [Try.underlying140]; rfl) Try.underlying3 hx
  have M : Hid (∀ q : Int, -4398046511104 ≤ q → q ≤ 4398046511104 → -4398046511104000000 ≤ q * d ∧ q * d ≤ 4398046511104000000) := fun q h1 h2 => mulq_box h1 h2 d1 d2
  have Q : Hid (∀ q : Int, q * d ≤ n ↔ q ≤ n / d) := fun q => quo_le d1
  clear hx
  generalize n / d = f at *
  go_enter Try.func133, Try.ntmps133
  go_wp2_with (simp only [hc])
  go_loop [7] (fun v => ∃ q : Int, v = .int .i64 q ∧ -4398046511103 ≤ q + 1 ∧ q ≤ 4398046511104) (fun v => (intOf v - f).toNat)
  case atStart => exact ⟨q0, rfl, by omega, by omega⟩
  case round =>
    obtain ⟨q, rfl, q1, q2⟩ := hrel
    obtain ⟨m1, m2⟩ := M.out q (by omega) q2
    have hq := Q.out q
    by_cases ht : f < q
    · have ht' : n < q * d := by omega
      clear hq
      go_wp2
      go_round
      case rel => exact ⟨q - 1, rfl, by omega, by omega⟩
      case measure => simp [intOf]; omega
    · have ht' : q * d ≤ n := by omega
      clear hq
      go_wp2_with fail
      go_loop [7] (fun v => ∃ q : Int, v = .int .i64 q ∧ -4398046511104 ≤ q ∧ q ≤ f) (fun v => (f - intOf v).toNat)
      case atStart => exact ⟨q, rfl, by omega, by omega⟩
      case round =>
        obtain ⟨r, rfl, r1, r2⟩ := hrel
        obtain ⟨m3, m4⟩ := M.out (r + 1) (by omega) (by omega)
        have hq := Q.out (r + 1)
        by_cases hr : r < f
        · have hr' : (r + 1) * d ≤ n := by omega
          clear hq
          go_wp2
          go_round
          case rel => exact ⟨r + 1, rfl, by omega, by omega⟩
          case measure => simp [intOf]; omega
        · have hr' : n < (r + 1) * d := by omega
          obtain rfl : r = f := by omega
          clear hq
          go_wp2
          go_ret
          exact ⟨rfl, rfl⟩

end Go.Proofs.Ytdodmcmkelegoaa
