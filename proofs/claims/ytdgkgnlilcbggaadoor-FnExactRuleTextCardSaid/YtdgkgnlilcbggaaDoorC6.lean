/-
  Contracts of the law's own helpers over rows of integers: two rows compared, a row marked, a row found as it was marked.
-/
import Derived.Test.YtdgkgnlilcbggaaDoorC4
import Derived.Test.YtdgkgnlilcbggaaDoorRow
import Derived.Lib.Hide
namespace Go.Proofs.YtdgkgnlilcbggaaDoor
open Go.RowKit

theorem Row.draws {w : World} {B : Nat} {v : Value} {xs : List Int} (h : Row w B v xs) (n : Nat) : Row (w.drewN n) B v xs := h
theorem grow_below {a w : World} (h : Below a.heap.size a w) (row : Option Nat) : a.grownBy w row := ⟨h.os, h.tape, h.output, h.size, fun k hk _ => h.block k hk⟩

/-- Behind marking: the row holds k0, k0 + 1, ..; nothing else that was there has turned. -/
def Marks (w : World) (B : Nat) (v : Value) (n : Nat) (k0 : Int) (e : Ending) (w' : World) : Prop :=
  e = .returned (.int .i64 (k0 + n)) ∧ Row w' B v (marks k0 n) ∧ w.grownBy w' v.ownBlock

theorem Row.set_ {w : World} {B g c n : Nat} {xs : List Int} (hn : n = xs.length) (h : Row w B (.slice (some ⟨g, 0, none⟩) n c) xs) (j : Nat) (u : Int) :
    Row (w.setCell ⟨g, j, none⟩ (.int .i64 u)) B (.slice (some ⟨g, 0, none⟩) n c) (xs.set j u) ∧ w.grownBy (w.setCell ⟨g, j, none⟩ (.int .i64 u)) (some g) := by
  subst hn
  have := World.ownsRow.stored h j (.int .i64 u)
  refine ⟨?_, this.2⟩
  unfold Row
  rw [List.length_set, show ints (xs.set j u) = (ints xs).set j (.int .i64 u) by simp [ints, List.map_set]]
  exact this.1

end Go.Proofs.YtdgkgnlilcbggaaDoor
