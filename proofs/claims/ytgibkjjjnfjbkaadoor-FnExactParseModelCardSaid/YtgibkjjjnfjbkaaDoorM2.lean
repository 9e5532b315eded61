/-
  Contracts of the law's own helpers over models: lists and models copied, measured and compared.
-/
import Derived.Test.YtgibkjjjnfjbkaaDoorM1
namespace Go.Proofs.YtgibkjjjnfjbkaaDoor
open Go.RowKit

/-- What szModel answers: less than 0 if there are too many. -/
def SzIs (n1 n2 n3 : Nat) (r : Int) : Prop := (1048576 < n1 + n2 + n3 ∧ r = -1) ∨ (n1 + n2 + n3 ≤ 1048576 ∧ r = 1048576 - n1 - n2 - n3)

theorem Row.put {w : World} {B : Nat} {v : Value} {xs : List Int} (h : Row w B v xs) {a : Addr} (ha : a.block < B) (u : Value) : Row (w.setCell a u) B v xs := ownsRow_setCell_below h ha u

theorem apart_of {w1 w2 : World} {B1 B2 : Nat} {v1 v2 : Value} {xs ys : List Int} (h1 : Row w1 B1 v1 xs) (h2 : Row w2 B2 v2 ys) (h : w1.heap.size ≤ B2) : Apart v1.ownBlock v2.ownBlock := by
  cases e1 : v1.ownBlock with
  | none => exact .inl rfl
  | some g =>
    refine .inr fun h4 => ?_
    have l2 := (World.ownsRow.lt h1 g e1).2
    have l4 := (World.ownsRow.lt h2 g h4.symm).1
    omega

/-- The three lists of a model that lies in memory from block B on, none sharing with another. -/
structure Mod (w : World) (B : Nat) (v1 v2 v3 : Value) (ts gs rs : List Int) : Prop where
  t : Row w B v1 ts
  g : Row w B v2 gs
  r : Row w B v3 rs
  tg : Apart v1.ownBlock v2.ownBlock
  tr : Apart v1.ownBlock v3.ownBlock
  gr : Apart v2.ownBlock v3.ownBlock
theorem Mod.below {w w' : World} {B : Nat} {v1 v2 v3 : Value} {ts gs rs : List Int} (h : Mod w B v1 v2 v3 ts gs rs) (hb : Below w.heap.size w w') : Mod w' B v1 v2 v3 ts gs rs := ⟨h.t.below hb, h.g.below hb, h.r.below hb, h.tg, h.tr, h.gr⟩
theorem Mod.mono {w : World} {B B' : Nat} {v1 v2 v3 : Value} {ts gs rs : List Int} (h : Mod w B v1 v2 v3 ts gs rs) (hB : B' ≤ B) : Mod w B' v1 v2 v3 ts gs rs := ⟨h.t.mono hB, h.g.mono hB, h.r.mono hB, h.tg, h.tr, h.gr⟩
def GivesMod (w : World) (x y z : Int) (ts gs rs : List Int) (e : Ending) (w' : World) : Prop :=
  ∃ v1 v2 v3, e = .returned (.agg #[.int .i64 x, .int .i64 y, .int .i64 z, v1, v2, v3]) ∧ Mod w' w.heap.size v1 v2 v3 ts gs rs ∧ Below w.heap.size w w'

set_option maxHeartbeats 400000 in
theorem c_eqGrid (x y z : Int) (w : World) : Calls Tryd.prog 16 #[.agg #[.int .i64 x, .int .i64 y, .int .i64 z], .agg #[.int .i64 x, .int .i64 y, .int .i64 z]] w fun e w' => e = .returned (.bool true) ∧ Below w.heap.size w w' := by
  have hx : (x != x) = false := by simp
  have hy : (y != y) = false := by simp
  have hz : (z != z) = false := by simp
  go_enter Tryd.func16, Tryd.ntmps16
  go_wp2
  go_ret
  exact ⟨rfl, by go_grown⟩
end Go.Proofs.YtgibkjjjnfjbkaaDoor
