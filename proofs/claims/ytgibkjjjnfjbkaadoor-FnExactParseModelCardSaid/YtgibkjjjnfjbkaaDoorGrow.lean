/-
  A region that draws its order, whose own operations only read, and whose callees may make memory but write nothing that was there: one walk in the order of the text serves every order.
-/
import Derived.Deep.QuietTactic
import Derived.BigQuiet
import Derived.Below
import Derived.WalkKit
namespace Go.Proofs.YtgibkjjjnfjbkaaDoor
open Go Go.RowKit

open Classical in
noncomputable def wOf (w u : World) : World := if Below w.heap.size w u then u else w
theorem wOf_below (w u : World) : Below w.heap.size w (wOf w u) := by
  unfold wOf
  split
  · assumption
  · exact Below.refl _ _
theorem wOf_mk {w u : World} (h : Below w.heap.size w u) : wOf w u = u := by unfold wOf; rw [if_pos h]
theorem wOf_cell (w u : World) (b o : Nat) (h : b < w.heap.size) : (wOf w u).cell? ⟨b, o, none⟩ = w.cell? ⟨b, o, none⟩ := (wOf_below w u).cell (p := ⟨b, o, none⟩) h
theorem wOf_frozen (w u : World) (b o : Nat) (h : b < w.heap.size) : (wOf w u).frozen? ⟨b, o, none⟩ = w.frozen? ⟨b, o, none⟩ := (wOf_below w u).frozen (p := ⟨b, o, none⟩) h
attribute [go_sem] wOf_cell wOf_frozen

theorem wp_region_grow {P : Program} {id : Nat} {Q : Exit → Act → World → Prop} {a : Act} {w : World} {l : List Oper} (hm : P.follows .mixedOrders = true) (hB : Region.lexB .any l.toArray = true)
    (h : wpQuiet P l.toArray (fun w' => ∃ u, w' = wOf w u) (fun a' => ∀ w', (∃ u, w' = wOf w u) → Q .normal a' w') l a) : (Code.region id l.toArray true).wp P Q a w :=
  wp_region_quiet (C := fun w' => ∃ u, w' = wOf w u) hm hB ⟨w.drew, (wOf_mk (Below.refl _ _).drew).symm⟩ (by simpa using h)

theorem grow_of {P : Program} {f : FuncId} {args : Array Value} {w u : World} {v : Value}
    (h : Calls P f args (wOf w u) fun e w' => e = .returned v ∧ Below (wOf w u).heap.size (wOf w u) w') : Calls P f args (wOf w u) fun e w'' => e = .returned v ∧ ∃ u', w'' = wOf w u' :=
  h.mono fun _ w' ⟨he, hb⟩ => ⟨he, w', (wOf_mk ((wOf_below w u).trans (hb.mono (wOf_below w u).size))).symm⟩
theorem grow_same {P : Program} {f : FuncId} {args : Array Value} {w u : World} {v : Value}
    (h : Calls P f args (wOf w u) fun e w' => e = .returned v ∧ wOf w u = w') : Calls P f args (wOf w u) fun e w'' => e = .returned v ∧ ∃ u', w'' = wOf w u' :=
  h.mono fun _ _ ⟨he, hb⟩ => ⟨he, u, hb.symm⟩
end Go.Proofs.YtgibkjjjnfjbkaaDoor
