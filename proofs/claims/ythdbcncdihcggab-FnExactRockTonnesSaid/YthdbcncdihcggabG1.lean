/-
  Contracts: greatest common divisors and fractions in lowest terms, in the program and in the model.
-/
import Derived.Test.YthdbcncdihcggabC4
import Derived.Lib.Hide
namespace Go.Proofs.Ythdbcncdihcggab
open Go.RowKit
set_option linter.unusedVariables false

theorem gcd_step (p q : Nat) : Nat.gcd q (p % q) = Nat.gcd p q := by
  rw [Nat.gcd_comm q, ← Nat.gcd_rec, Nat.gcd_comm]

theorem three_results {fn : Func} {t0 t1 t2 : Tmp} (h : fn.results = #[.tmp t0, .tmp t1, .tmp t2]) (fr : Array Value) (P : Program) (w : World) :
    (results fn fr).run P w = .ok (.tuple #[fr.getD t0 undef, fr.getD t1 undef, fr.getD t2 undef]) w := by simp [results, h]

end Go.Proofs.Ythdbcncdihcggab
