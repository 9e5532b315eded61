/-
  Contracts: greatest common divisors and fractions in lowest terms, in the program and in the model.
-/
import Derived.Test.YtdodmcmkelegoaaC4
import Derived.Lib.Hide
namespace Go.Proofs.Ytdodmcmkelegoaa
open Go.RowKit
set_option linter.unusedVariables false

theorem gcd_step (p q : Nat) : Nat.gcd q (p % q) = Nat.gcd p q := by
  rw [Nat.gcd_comm q, ← Nat.gcd_rec, Nat.gcd_comm]

set_option maxHeartbeats 1000000 in
theorem c_commonDivisor (a b : Nat) (w : World) (ha : a ≤ 4000000000000000) (hb : b ≤ 4000000000000000) : Calls Try.prog 91 #[.int .i64 a, .int .i64 b] w fun e w' => e = .returned (.int .i64 (Nat.gcd a b)) ∧ Below w.heap.size w w' := by
  generalize hG : Nat.gcd a b = G
  have HG := Lib.hid hG
  clear hG
  go_enter Try.func91, Try.ntmps91
  go_wp2
  go_loopw [0, 1] (fun u v wr => ∃ p q : Nat, u = .int .i64 p ∧ v = .int .i64 q ∧ Nat.gcd p q = G ∧ p ≤ 4000000000000000 ∧ q ≤ 4000000000000000 ∧ Below w.heap.size w wr) (fun _ v _ => (intOf v).toNat)
  case atStart => exact ⟨a, b, rfl, rfl, HG.out, ha, hb, Below.refl _ _⟩
  case round =>
    obtain ⟨p, q, rfl, rfl, hg, hp, hq, hbw⟩ := hrel
    have HG1 := Lib.hid hg
    have HB := Lib.hid hbw
    clear hg hbw
    by_cases h0 : q = 0
    · subst h0
      have HG2 : Hid (p = G) := Lib.hid (by simpa using HG1.out)
      go_wp2
      go_ret
      exact ⟨ret_int (by rw [HG2.out]), HB.out⟩
    · have h1 : (q : Int) ≠ 0 := by omega
      have h2 : (0 : Int) ≤ (p : Int) % (q : Int) := Int.emod_nonneg _ h1
      have h3 : (p : Int) % (q : Int) < (q : Int) := Int.emod_lt_of_pos _ (by omega)
      have HG3 : Hid (Nat.gcd q (p % q) = G) := by rw [gcd_step]; exact HG1.out
      go_wp2
      go_quiet (fail)
      go_wp2
      go_roundw
      case rel => exact ⟨q, p % q, rfl, by go_num, HG3.out, hq, by omega, below_draws HB.out _⟩
      case measure => simp [intOf]; omega

theorem three_results {fn : Func} {t0 t1 t2 : Tmp} (h : fn.results = #[.tmp t0, .tmp t1, .tmp t2]) (fr : Array Value) (P : Program) (w : World) :
    (results fn fr).run P w = .ok (.tuple #[fr.getD t0 undef, fr.getD t1 undef, fr.getD t2 undef]) w := by simp [results, h]

set_option maxHeartbeats 1000000 in
theorem c_moPart (a b : Nat) (w : World) (ha : a ≤ 4000000000000000) (hb : b ≤ 4000000000000000) (h0 : 0 < b) : Calls Try.prog 93 #[.int .i64 a, .int .i64 b] w fun e w' => e = .returned (.tuple #[.int .i64 ((a : Int) / (Nat.gcd a b : Nat)), .int .i64 ((b : Int) / (Nat.gcd a b : Nat))]) ∧ Below w.heap.size w w' := by
  have hg : 0 < Nat.gcd a b := Nat.gcd_pos_of_pos_right _ h0
  have hl : Nat.gcd a b ≤ b := Nat.gcd_le_right _ h0
  generalize hG : Nat.gcd a b = G at *
  have HG := Lib.hid hG
  clear hG
  go_enter Try.func93, Try.ntmps93
  go_wp2
  go_loop [6, 7, 8] (fun u v _ => ∃ p q : Nat, u = .int .i64 p ∧ v = .int .i64 q ∧ Nat.gcd p q = G ∧ p ≤ 4000000000000000 ∧ q ≤ 4000000000000000) (fun _ v _ => (intOf v).toNat)
  case atStart => exact ⟨a, b, rfl, rfl, HG.out, ha, hb⟩
  case round =>
    obtain ⟨p, q, rfl, rfl, hg, hp, hq⟩ := hrel
    have HG1 := Lib.hid hg
    clear hg
    by_cases hq0 : q = 0
    · subst hq0
      obtain rfl : p = G := by simpa using HG1.out
      have g1 : (p : Int) ≠ 0 := by omega
      obtain ⟨d1, d2⟩ := div_box (i := (a : Int)) (x := (p : Int)) (by omega) (by omega)
      obtain ⟨e1, e2⟩ := div_box (i := (b : Int)) (x := (p : Int)) (by omega) (by omega)
      go_wp2
      go_quiet (fail)
      go_wp2
      go_ret2
      exact ⟨rfl, below_draws (Below.refl _ _) _⟩
    · have h1 : (q : Int) ≠ 0 := by omega
      have h2 : (0 : Int) ≤ (p : Int) % (q : Int) := Int.emod_nonneg _ h1
      have h3 : (p : Int) % (q : Int) < (q : Int) := Int.emod_lt_of_pos _ (by omega)
      have h4 : (0 : Int) < (q : Int) := by omega
      have HG3 : Hid (Nat.gcd q (p % q) = G) := by rw [gcd_step]; exact HG1.out
      go_wp2
      go_round
      case rel => exact ⟨q, p % q, rfl, by go_num, HG3.out, hq, by omega⟩
      case measure => simp [intOf]; omega

end Go.Proofs.Ytdodmcmkelegoaa
