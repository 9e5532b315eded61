/-
  Rows of marks, and one number put behind a row.
-/
import Derived.Test.YtfpjodoimfbadaaM1
namespace Go.Proofs.Ytfpjodoimfbadaa
open Go.RowKit
set_option linter.unusedVariables false

def bools (bs : List Bool) : List Value := bs.map Value.bool
/-- The slice v is a row of the marks bs, in memory from block B on. -/
def RowB (w : World) (B : Nat) (v : Value) (bs : List Bool) : Prop := w.ownsRow B 4 1 v bs.length (bools bs)
theorem RowB.cell {w : World} {B g c : Nat} {bs : List Bool} (h : RowB w B (.slice (some ⟨g, 0, none⟩) bs.length c) bs) (k : Nat) (hk : k < bs.length) : w.cell? ⟨g, k, none⟩ = some (.bool (bs.getD k false)) := by
  rw [World.ownsRow.cellAt h k (by omega)]
  simp [bools, hk]
theorem RowB.frozen {w : World} {B g c : Nat} {bs : List Bool} (h : RowB w B (.slice (some ⟨g, 0, none⟩) bs.length c) bs) (k : Nat) : w.frozen? ⟨g, k, none⟩ = false := World.ownsRow.frozenAt h k
theorem RowB.blk {w : World} {B g c : Nat} {bs : List Bool} (h : RowB w B (.slice (some ⟨g, 0, none⟩) bs.length c) bs) (h0 : 0 < bs.length) : g < w.heap.size := by
  obtain ⟨g', c', e, _, hl⟩ := World.ownsRow.form h h0
  simp at e
  rw [e.1]; exact hl
theorem RowB.set_ {w : World} {B g c n : Nat} {bs : List Bool} (hn : n = bs.length) (h : RowB w B (.slice (some ⟨g, 0, none⟩) n c) bs) (j : Nat) (u : Bool) :
    RowB (w.setCell ⟨g, j, none⟩ (.bool u)) B (.slice (some ⟨g, 0, none⟩) n c) (bs.set j u) ∧ w.grownBy (w.setCell ⟨g, j, none⟩ (.bool u)) (some g) := by
  subst hn
  have := World.ownsRow.stored h j (.bool u)
  refine ⟨?_, this.2⟩
  unfold RowB
  rw [List.length_set, show bools (bs.set j u) = (bools bs).set j (.bool u) by simp [bools, List.map_set]]
  exact this.1
theorem RowB.below {w w' : World} {B : Nat} {v : Value} {bs : List Bool} (h : RowB w B v bs) (hb : Below w.heap.size w w') : RowB w' B v bs :=
  World.ownsRow.kept (row := none) h ⟨hb.os, hb.tape, hb.output, hb.size, fun k hk _ => hb.block k hk⟩ (by cases v.ownBlock <;> simp)
theorem row_more {w3 : World} {B : Nat} {v' : Value} {xs : List Int} {k : Int} (h : w3.ownsRow B 3 1 v' (xs.length + 1) (ints xs ++ [.int .i64 k])) : Row w3 B v' (xs ++ [k]) := by
  unfold Row
  rw [List.length_append, show ints (xs ++ [k]) = ints xs ++ [.int .i64 k] by simp [ints]]
  exact h
end Go.Proofs.Ytfpjodoimfbadaa
