/-
  Contracts: prices, in the program and in the model of it.
-/
import Derived.Test.YtdodmcmkelegoaaW1
namespace Go.Proofs.Ytdodmcmkelegoaa
open Go.RowKit
set_option linter.unusedVariables false

/-- Prices that lie in a block of memory. -/
structure Box4 (w : World) (b : Nat) (p q r s : Int) : Prop where
  lt : b < w.heap.size
  c0 : w.cell? ⟨b, 0, none⟩ = some (.int .i64 p)
  c1 : w.cell? ⟨b, 1, none⟩ = some (.int .i64 q)
  c2 : w.cell? ⟨b, 2, none⟩ = some (.int .i64 r)
  c3 : w.cell? ⟨b, 3, none⟩ = some (.int .i64 s)
theorem Box4.below {w w' : World} {b : Nat} {p q r s : Int} (h : Box4 w b p q r s) (hb : Below w.heap.size w w') : Box4 w' b p q r s :=
  ⟨Nat.lt_of_lt_of_le h.lt hb.size, by rw [hb.cell (p := ⟨b, 0, none⟩) h.lt]; exact h.c0, by rw [hb.cell (p := ⟨b, 1, none⟩) h.lt]; exact h.c1, by rw [hb.cell (p := ⟨b, 2, none⟩) h.lt]; exact h.c2, by rw [hb.cell (p := ⟨b, 3, none⟩) h.lt]; exact h.c3⟩
theorem Box4.new (w : World) (p q r s : Int) (T : TypeId) : Box4 (w.alloc (.cells #[.int .i64 p, .int .i64 q, .int .i64 r, .int .i64 s] T)) w.heap.size p q r s := ⟨by simp, by simp, by simp, by simp, by simp⟩

theorem row_four (w : World) (a b c d : Int) : Row (w.alloc (.cells #[.int .i64 a, .int .i64 b, .int .i64 c, .int .i64 d] 3)) w.heap.size (.slice (some ⟨w.heap.size, 0, none⟩) 4 4) [a, b, c, d] := by
  have := World.ownsRow_lit (base := w.heap.size) (e := 3) (size := 1) w #[.int .i64 a, .int .i64 b, .int .i64 c, .int .i64 d] 4 (Nat.le_refl _) (by unfold maxLen; omega) (by simp)
  exact this

/-- Prices. -/
def priB (p q r s : Int) : Bool := allB 1000 [p, q, r, s]
theorem pri_are (p q r s : Int) : areB 4 1000 [p, q, r, s] = priB p q r s := by unfold areB priB; simp
theorem pri_yes {p q r s : Int} (h : priB p q r s = true) : 0 ≤ p ∧ p ≤ 1000 ∧ 0 ≤ q ∧ q ≤ 1000 ∧ 0 ≤ r ∧ r ≤ 1000 ∧ 0 ≤ s ∧ s ≤ 1000 := by
  unfold priB allB at h
  simp only [List.all_cons, List.all_nil, Bool.and_true, Bool.and_eq_true, decide_eq_true_eq] at h
  omega

set_option maxHeartbeats 1000000 in
theorem c_ArePrices (p q r s : Int) (w : World) :
    Calls Try.prog 74 #[.agg #[.int .i64 p, .int .i64 q, .int .i64 r, .int .i64 s]] w fun e w' => e = .returned (.bool (priB p q r s)) ∧ Below w.heap.size w w' := by
  have HB0 : Hid (Below w.heap.size w ((w.alloc (.cells #[.int .i64 p, .int .i64 q, .int .i64 r, .int .i64 s] 51)).alloc (.cells #[.int .i64 p, .int .i64 q, .int .i64 r, .int .i64 s] 3))) := ((Below.refl _ _).alloc (Nat.le_refl _) _).alloc (by simp) _
  have HS := Lib.hid (row_four (w.alloc (.cells #[.int .i64 p, .int .i64 q, .int .i64 r, .int .i64 s] 51)) p q r s).seen
  have HZ : (w.alloc (.cells #[.int .i64 p, .int .i64 q, .int .i64 r, .int .i64 s] 51)).heap.size = w.heap.size + 1 := by simp
  rw [HZ] at HS
  rw [← pri_are]
  go_enter Try.func74, Try.ntmps74
  go_wp2_with fail
  refine (c_areNumbers [p, q, r, s] _ _ _ _ (by simp) HS.out).mono ?_
  rintro e w1 ⟨rfl, rfl⟩
  go_wp2
  go_ret
  exact ⟨rfl, HB0.out⟩

set_option maxHeartbeats 1000000 in
theorem c_vaPrices (p q r s : Int) (w : World) :
    Calls Try.prog 72 #[.agg #[.int .i64 p, .int .i64 q, .int .i64 r, .int .i64 s]] w fun e w' => e = .returned (.bool (priB p q r s)) ∧ Below w.heap.size w w' := by
  have HB0 : Hid (Below w.heap.size w ((w.alloc (.cells #[.int .i64 p, .int .i64 q, .int .i64 r, .int .i64 s] 51)).alloc (.cells #[.int .i64 p, .int .i64 q, .int .i64 r, .int .i64 s] 3))) := ((Below.refl _ _).alloc (Nat.le_refl _) _).alloc (by simp) _
  have HS := Lib.hid (row_four (w.alloc (.cells #[.int .i64 p, .int .i64 q, .int .i64 r, .int .i64 s] 51)) p q r s).seen
  have HZ : (w.alloc (.cells #[.int .i64 p, .int .i64 q, .int .i64 r, .int .i64 s] 51)).heap.size = w.heap.size + 1 := by simp
  rw [HZ] at HS
  unfold priB
  go_enter Try.func72, Try.ntmps72
  go_wp2_with fail
  refine (c_l1All [p, q, r, s] _ _ _ (by simp) HS.out).mono ?_
  rintro e w1 ⟨rfl, rfl⟩
  go_wp2
  go_ret
  exact ⟨rfl, HB0.out⟩

end Go.Proofs.Ytdodmcmkelegoaa
