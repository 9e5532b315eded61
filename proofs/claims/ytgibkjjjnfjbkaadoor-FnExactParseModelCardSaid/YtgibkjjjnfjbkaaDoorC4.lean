/-
  Contracts of chapter 1: numbers of steps, nearness, and the exported functions that answer numbers.
-/
import Derived.Test.YtgibkjjjnfjbkaaDoorC3
namespace Go.Proofs.YtgibkjjjnfjbkaaDoor
open Go.RowKit

theorem four_results {fn : Func} {t0 t1 t2 t3 : Tmp} (h : fn.results = #[.tmp t0, .tmp t1, .tmp t2, .tmp t3]) (fr : Array Value) (P : Program) (w : World) :
    (results fn fr).run P w = .ok (.tuple #[fr.getD t0 undef, fr.getD t1 undef, fr.getD t2 undef, fr.getD t3 undef]) w := by simp [results, h]
theorem still_at {P : Program} {f : FuncId} {args : Array Value} {w : World} {n : Nat} {v : Value}
    (h : Calls P f args (w.drewN n) fun e w' => e = .returned v ∧ w.drewN n = w') : Calls P f args (w.drewN n) fun e w' => e = .returned v ∧ ∃ m, w' = w.drewN m :=
  h.mono fun _ _ hh => ⟨hh.1, n, hh.2.symm⟩
theorem still_past {P : Program} {f : FuncId} {args : Array Value} {w : World} {k n : Nat} {v : Value}
    (h : Calls P f args (w.drewN (k + n)) fun e w' => e = .returned v ∧ w.drewN (k + n) = w') : Calls P f args (w.drewN (k + n)) fun e w' => e = .returned v ∧ ∃ m, w' = w.drewN (k + m) :=
  h.mono fun _ _ hh => ⟨hh.1, n, hh.2.symm⟩
theorem below_draws {B : Nat} {a w : World} (h : Below B a w) (n : Nat) : Below B a (w.drewN n) := ⟨h.os, h.tape, h.output, h.size, h.block⟩

def nearB (a b c p q r d : Int) : Bool := decide (((a - p).natAbs : Int) ≤ d) && decide (((b - q).natAbs : Int) ≤ d) && decide (((c - r).natAbs : Int) ≤ d)

/-! ### The exported functions that answer numbers: two results (or four), the second (last) a bool -/

def cntV (x y z : Int) : Int := if goodB x y z then x * y * z else 0

def atB (x y z a b c : Int) : Bool := goodB x y z && inB x y z a b c
def atW (x y z a b c : Int) : Int := if atB x y z a b c then (c * y + b) * x + a else 0

end Go.Proofs.YtgibkjjjnfjbkaaDoor
