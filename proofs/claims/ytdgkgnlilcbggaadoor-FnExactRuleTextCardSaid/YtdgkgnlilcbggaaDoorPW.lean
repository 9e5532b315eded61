/-
  Laws: a drawn region walked by hand under a condition on the world that may grow stronger on the way.
-/
import Derived.OrdersHeld
import Derived.Deep.RegionHeld
import Derived.Deep.RegionHeld3
import Derived.Test.YtdgkgnlilcbggaaDoorC1
import Derived.Below
namespace Go.Proofs.YtdgkgnlilcbggaaDoor
open Go Go.RowKit
set_option linter.unusedVariables false

section
variable {P : Program} {ops : Array Oper} {Q : Exit → Act → World → Prop} {md : Region.Mode} {S S' : World → Prop}

/-- Under a stronger condition, so under the weaker one. -/
theorem held_weaker (h : ∀ u, S' u → S u) : ∀ (k : Nat) (l : Array Bool) (a : Act) (w : World), wpAnyH P md ops Q S' k l a w → wpAnyH P md ops Q S k l a w
  | 0, _, _, _, x => x
  | k + 1, _, _, _, x => ⟨x.1, fun i hi => wpOp_mono (fun b u y => ⟨h u y.1, held_weaker h k _ b u y.2⟩) (x.2 i hi)⟩
/-- One alone may come up. -/
theorem held_one {i : Nat} {oi : Oper} {k : Nat} {l : Array Bool} {a : Act} {w : World} (hi : ops[i]? = some oi) (hr : Region.ready md ops l = [i])
    (h : ∀ K : Act → World → Prop, Shut (∀ b u, S u → (S u → wpAnyH P md ops Q S k (l.setIfInBounds i true) b u) → K b u) → if Region.wanted oi (yielded ops a.tmps) = true then Oper.wp P oi a w K Q else K (a.put oi.dst undef) w) :
    wpAnyH P md ops Q S (k + 1) l a w :=
  wpAnyH_ready hr (by simp) (AllReadyH.cons hi h AllReadyH.nil)
/-- Two may come up. -/
theorem held_two {i j : Nat} {oi oj : Oper} {k : Nat} {l : Array Bool} {a : Act} {w : World} (hi : ops[i]? = some oi) (hj : ops[j]? = some oj) (hr : Region.ready md ops l = [i, j])
    (h : ∀ K : Act → World → Prop, Shut (∀ b u, S u → (S u → wpAnyH P md ops Q S k (l.setIfInBounds i true) b u) → K b u) → if Region.wanted oi (yielded ops a.tmps) = true then Oper.wp P oi a w K Q else K (a.put oi.dst undef) w)
    (g : ∀ K : Act → World → Prop, Shut (∀ b u, S u → (S u → wpAnyH P md ops Q S k (l.setIfInBounds j true) b u) → K b u) → if Region.wanted oj (yielded ops a.tmps) = true then Oper.wp P oj a w K Q else K (a.put oj.dst undef) w) :
    wpAnyH P md ops Q S (k + 1) l a w :=
  wpAnyH_ready hr (by simp) (AllReadyH.cons hi h (AllReadyH.cons hj g AllReadyH.nil))
/-- What cannot fail is taken first: the place it is kept at is named. -/
theorem held_take {i t : Nat} {oi : Oper} {v : Value} {k : Nat} {l : Array Bool} {a : Act} {w : World} (hi : ops[i]? = some oi) (hs : Region.noSelect ops = true) (hf : Region.free md ops l i = true)
    (hr : (Region.ready md ops l).contains i = true) (hd : oi.dst = some t) (hQ : ∀ c a w, Q (.panic c) (a.put oi.dst v) w → Q (.panic c) a w) (hy : YieldsIf P ops S oi v a) (hS : S w)
    (h : wpAnyH P md ops Q S k (l.setIfInBounds i true) (a.put (some t) v) w) : wpAnyH P md ops Q S (k + 1) l a w :=
  wpAnyH_take hi hs hf hr hQ hy hS (by rw [hd]; exact h)
/-- What follows a region, and no panic. -/
def OnlyN (R : Act → World → Prop) : Exit → Act → World → Prop
  | .normal, a, w => R a w
  | _, _, _ => False
theorem OnlyN.imp {R : Act → World → Prop} (h : ∀ a w, R a w → Q .normal a w) : ∀ (e : Exit) (a : Act) (w : World), OnlyN R e a w → Q e a w := fun e a w x => by
  cases e <;> first | exact h a w x | exact (x : False).elim
/-- The region, and what follows it once for all its ways. -/
theorem region_end {id : Nat} {a : Act} {w : World} (S : World → Prop) (F : Nat → Act) (E : World → Prop) (hm : P.follows .mixedOrders = true) (hS : S w.drew) (hEnd : ∀ blk u, E u → Q .normal (F blk) u)
    (hRun : ∀ (R : Act → World → Prop) (WD : World), Shut (∀ blk u, E u → R (F blk) u) → Below w.heap.size w WD → S WD → wpAnyH P .any ops (OnlyN R) S ops.size (Array.replicate ops.size false) a WD) : (Code.region id ops true).wp P Q a w :=
  Code.wp_mono (OnlyN.imp (R := fun b u => Q .normal b u) fun _ _ x => x) (wp_region_held_drew hm hS (hRun (fun b u => Q .normal b u) w.drew hEnd ((Below.refl _ _).drew)))
end
end Go.Proofs.YtdgkgnlilcbggaaDoor
