/-
  Contracts of chapter 1: numbers of steps, nearness, and the exported functions that answer numbers.
-/
import Derived.Test.YtfpjodoimfbadaaC3
namespace Go.Proofs.Ytfpjodoimfbadaa
open Go.RowKit

theorem four_results {fn : Func} {t0 t1 t2 t3 : Tmp} (h : fn.results = #[.tmp t0, .tmp t1, .tmp t2, .tmp t3]) (fr : Array Value) (P : Program) (w : World) :
    (results fn fr).run P w = .ok (.tuple #[fr.getD t0 undef, fr.getD t1 undef, fr.getD t2 undef, fr.getD t3 undef]) w := by simp [results, h]
theorem still_at {P : Program} {f : FuncId} {args : Array Value} {w : World} {n : Nat} {v : Value}
    (h : Calls P f args (w.drewN n) fun e w' => e = .returned v ∧ w.drewN n = w') : Calls P f args (w.drewN n) fun e w' => e = .returned v ∧ ∃ m, w' = w.drewN m :=
  h.mono fun _ _ hh => ⟨hh.1, n, hh.2.symm⟩
theorem still_past {P : Program} {f : FuncId} {args : Array Value} {w : World} {k n : Nat} {v : Value}
    (h : Calls P f args (w.drewN (k + n)) fun e w' => e = .returned v ∧ w.drewN (k + n) = w') : Calls P f args (w.drewN (k + n)) fun e w' => e = .returned v ∧ ∃ m, w' = w.drewN (k + m) :=
  h.mono fun _ _ hh => ⟨hh.1, n, hh.2.symm⟩
theorem below_draws {B : Nat} {a w : World} (h : Below B a w) (n : Nat) : Below B a (w.drewN n) := ⟨h.os, h.tape, h.output, h.size, h.block⟩

def nearB (a b c p q r d : Int) : Bool := decide (((a - p).natAbs : Int) ≤ d) && decide (((b - q).natAbs : Int) ≤ d) && decide (((c - r).natAbs : Int) ≤ d)

/-! ### The exported functions that answer numbers: two results (or four), the second (last) a bool -/

def cntV (x y z : Int) : Int := if goodB x y z then x * y * z else 0

def atB (x y z a b c : Int) : Bool := goodB x y z && inB x y z a b c
def atW (x y z a b c : Int) : Int := if atB x y z a b c then (c * y + b) * x + a else 0

set_option maxHeartbeats 1000000 in
theorem c_BlockAt (x y z a b c : Int) (w : World) : Calls Try.prog 67 #[.agg #[.int .i64 x, .int .i64 y, .int .i64 z], .int .i64 a, .int .i64 b, .int .i64 c] w fun e w' => e = .returned (.tuple #[.int .i64 (atW x y z a b c), .bool (atB x y z a b c)]) ∧ Below w.heap.size w w' := by
  cases hg : goodB x y z
  · have hb : atB x y z a b c = false := by unfold atB; rw [hg]; rfl
    rw [show atW x y z a b c = 0 from if_neg (by rw [hb]; simp), hb]
    clear hb
    go_enter Try.func67, Try.ntmps67
    go_wp2_with (go_at_call 39; refine (c_IsGrid _ _ _ _).mono ?_; rintro e w1 ⟨rfl, hb1⟩)
    go_ret2
    exact ⟨rfl, ((Below.refl _ _).alloc (Nat.le_refl _) _).trans (hb1.mono (by simp))⟩
  · obtain ⟨x1, x2, y1, y2, z1, z2, p1, p2, q1, q2⟩ := good_box hg
    cases hi : inB x y z a b c
    · have hb : atB x y z a b c = false := by unfold atB; rw [hi]; simp
      rw [show atW x y z a b c = 0 from if_neg (by rw [hb]; simp), hb]
      clear hb
      go_enter Try.func67, Try.ntmps67
      go_wp2_with fail
      refine (c_IsGrid _ _ _ _).mono ?_
      rintro e w1 ⟨rfl, hb1⟩
      obtain ⟨hc1, hf1⟩ := bcell hb1
      have s1 := hb1.size
      simp at s1
      go_wp2_with fail
      refine (c_isPlace _ _ _ _ _ _ _).mono ?_
      rintro e w2 ⟨rfl, hb2⟩
      go_wp2
      go_ret2
      exact ⟨rfl, (((Below.refl _ _).alloc (Nat.le_refl _) _).trans (hb1.mono (by simp))).trans (hb2.mono (by omega))⟩
    · have hb : atB x y z a b c = true := by unfold atB; rw [hg, hi]; rfl
      have hh := of_decide_eq_true hi
      obtain ⟨r1, r2, r3, r4⟩ := at_box x2 y2 z2 hh
      obtain ⟨⟨k1, k2⟩, ⟨k3, k4⟩, k5, k6⟩ := hh
      rw [show atW x y z a b c = (c * y + b) * x + a from if_pos hb, hb]
      clear hb
      go_enter Try.func67, Try.ntmps67
      go_wp2_with fail
      refine (c_IsGrid _ _ _ _).mono ?_
      rintro e w1 ⟨rfl, hb1⟩
      obtain ⟨hc1, hf1⟩ := bcell hb1
      have s1 := hb1.size
      simp at s1
      go_wp2_with fail
      refine (c_isPlace _ _ _ _ _ _ _).mono ?_
      rintro e w2 ⟨rfl, hb2⟩
      obtain ⟨hc2, hf2⟩ := bcell hb2
      have s2 := hb2.size
      have s3 : w.heap.size < w1.heap.size := by omega
      have s4 : w.heap.size < w2.heap.size := by omega
      go_wp2
      go_ret2
      exact ⟨rfl, (((Below.refl _ _).alloc (Nat.le_refl _) _).trans (hb1.mono (by simp))).trans (hb2.mono (by omega))⟩
end Go.Proofs.Ytfpjodoimfbadaa
