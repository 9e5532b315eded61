/-
  Contracts: rising lists of block numbers, in the program and in the model of it.
-/
import Derived.Test.YtgibkjjjnfjbkaaDoorM5
import Derived.Test.YtgibkjjjnfjbkaaDoorS1
import Derived.BigQuiet
namespace Go.Proofs.YtgibkjjjnfjbkaaDoor
open Go.RowKit
set_option linter.unusedVariables false

/-- A grid that lies in a block of memory. -/
structure Box3 (w : World) (b : Nat) (x y z : Int) : Prop where
  lt : b < w.heap.size
  c0 : w.cell? ⟨b, 0, none⟩ = some (.int .i64 x)
  c1 : w.cell? ⟨b, 1, none⟩ = some (.int .i64 y)
  c2 : w.cell? ⟨b, 2, none⟩ = some (.int .i64 z)
theorem Box3.below {w w' : World} {b : Nat} {x y z : Int} (h : Box3 w b x y z) (hb : Below w.heap.size w w') : Box3 w' b x y z :=
  ⟨Nat.lt_of_lt_of_le h.lt hb.size, by rw [hb.cell (p := ⟨b, 0, none⟩) h.lt]; exact h.c0, by rw [hb.cell (p := ⟨b, 1, none⟩) h.lt]; exact h.c1, by rw [hb.cell (p := ⟨b, 2, none⟩) h.lt]; exact h.c2⟩
theorem Box3.new (w : World) (x y z : Int) (T : TypeId) : Box3 (w.alloc (.cells #[.int .i64 x, .int .i64 y, .int .i64 z] T)) w.heap.size x y z := ⟨by simp, by simp, by simp, by simp⟩

/-- A model that lies in a block of memory. -/
structure Box6 (w : World) (b : Nat) (x y z : Int) (v1 v2 v3 : Value) : Prop where
  lt : b < w.heap.size
  c0 : w.cell? ⟨b, 0, none⟩ = some (.int .i64 x)
  c1 : w.cell? ⟨b, 1, none⟩ = some (.int .i64 y)
  c2 : w.cell? ⟨b, 2, none⟩ = some (.int .i64 z)
  c3 : w.cell? ⟨b, 3, none⟩ = some v1
  c4 : w.cell? ⟨b, 4, none⟩ = some v2
  c5 : w.cell? ⟨b, 5, none⟩ = some v3
theorem Box6.below {w w' : World} {b : Nat} {x y z : Int} {v1 v2 v3 : Value} (h : Box6 w b x y z v1 v2 v3) (hb : Below w.heap.size w w') : Box6 w' b x y z v1 v2 v3 :=
  ⟨Nat.lt_of_lt_of_le h.lt hb.size, by rw [hb.cell (p := ⟨b, 0, none⟩) h.lt]; exact h.c0, by rw [hb.cell (p := ⟨b, 1, none⟩) h.lt]; exact h.c1, by rw [hb.cell (p := ⟨b, 2, none⟩) h.lt]; exact h.c2,
    by rw [hb.cell (p := ⟨b, 3, none⟩) h.lt]; exact h.c3, by rw [hb.cell (p := ⟨b, 4, none⟩) h.lt]; exact h.c4, by rw [hb.cell (p := ⟨b, 5, none⟩) h.lt]; exact h.c5⟩
theorem Box6.new (w : World) (x y z : Int) (v1 v2 v3 : Value) (T : TypeId) : Box6 (w.alloc (.cells #[.int .i64 x, .int .i64 y, .int .i64 z, v1, v2, v3] T)) w.heap.size x y z v1 v2 v3 := ⟨by simp, by simp, by simp, by simp, by simp, by simp, by simp⟩

def RisTo (n : Int) (xs : List Int) (k : Nat) : Prop := ∀ j : Nat, j < k → prevOf xs j < xs.getD j 0 ∧ xs.getD j 0 < n
theorem RisTo.zero (n : Int) (xs : List Int) : RisTo n xs 0 := fun j hj => by omega
theorem RisTo.succ {n : Int} {xs : List Int} {k : Nat} (h : RisTo n xs k) (hk : prevOf xs k < xs.getD k 0 ∧ xs.getD k 0 < n) : RisTo n xs (k + 1) := fun j hj => by
  by_cases e : j = k
  · rw [e]; exact hk
  · exact h j (by omega)

end Go.Proofs.YtgibkjjjnfjbkaaDoor
