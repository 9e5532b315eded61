/-
  Contracts: a valid model, in the program and in the model of it.
-/
import Derived.Test.YtfpjodoimfbadaaM3
namespace Go.Proofs.Ytfpjodoimfbadaa
open Go.RowKit

/-- A valid model. -/
def moB (x y z : Int) (ts gs rs : List Int) : Bool := goodB x y z && (areB (x * y * z) 10000 ts && (areB (x * y * z) 1000 gs && areB (x * y * z) 4 rs))

structure Look (w : World) (v1 v2 v3 : Value) (ts gs rs : List Int) : Prop where
  t : Seen w v1 ts
  g : Seen w v2 gs
  r : Seen w v3 rs
theorem Look.below {w w' : World} {v1 v2 v3 : Value} {ts gs rs : List Int} (h : Look w v1 v2 v3 ts gs rs) (hb : Below w.heap.size w w') : Look w' v1 v2 v3 ts gs rs := ⟨h.t.below hb, h.g.below hb, h.r.below hb⟩
theorem Mod.look {w : World} {B : Nat} {v1 v2 v3 : Value} {ts gs rs : List Int} (h : Mod w B v1 v2 v3 ts gs rs) : Look w v1 v2 v3 ts gs rs := ⟨h.t.seen, h.g.seen, h.r.seen⟩
theorem Seen.shape {w : World} {v : Value} {xs : List Int} (h : Seen w v xs) : ∃ A c, v = .slice A xs.length c := by
  obtain ⟨A, c, rfl, _⟩ := h
  exact ⟨A, c, rfl⟩

end Go.Proofs.Ytfpjodoimfbadaa
