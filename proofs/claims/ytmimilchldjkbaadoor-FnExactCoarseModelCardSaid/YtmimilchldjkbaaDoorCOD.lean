/-
  Coarse models: what is answered.
-/
import Derived.Test.YtmimilchldjkbaaDoorCO3
import Derived.Test.YtmimilchldjkbaaDoorJ3
namespace Go.Proofs.YtmimilchldjkbaaDoor
open Go.RowKit
set_option linter.unusedVariables false

/-- What joining tells of each coarse block. -/
structure JoOk (X Y : Nat) (ts gs rs : List Int) (N k : Nat) : Prop where
  n1 : 1 ≤ coC X Y k N
  n2 : coC X Y k N ≤ 20
  p : PieTo (cpL X Y ts gs rs k N) (coC X Y k N)
  b : joB (coC X Y k N) (cpL X Y ts gs rs k N) = cjB X Y ts gs rs N k
theorem joOk {X Y Z : Nat} {ts gs rs : List Int} {N K : Nat} (ho : CoOk X Y Z ts gs rs N K) {k : Nat} (hk : k < K) : JoOk X Y ts gs rs N k := by
  obtain ⟨x1, x2, y1, y2, z1, z2, p1, p2, q1, q2⟩ := good_box ho.g
  have hf := co_four (x := X) (y := Y) (z := Z) (k := k) (by omega) (by omega) (by omega) (by omega) (by omega) (by omega) (by have := ho.n; have := ho.n2; omega) (by rw [ho.k]; exact hk)
  rw [ho.n] at hf
  have hp : PieTo (cpL X Y ts gs rs k N) (coC X Y k N) := cpL_pie N (fun i hi => ho.pie i hi)
  refine ⟨hf.1, by omega, hp, ?_⟩
  unfold joB piesB cjB cjT
  rw [pieAll_true hp, decide_eq_true (p := 1 ≤ coC X Y k N ∧ coC X Y k N ≤ 20) ⟨hf.1, by omega⟩]
  rfl
theorem JoOk.vals {X Y : Nat} {ts gs rs : List Int} {N k : Nat} (h : JoOk X Y ts gs rs N k) (hb : cjB X Y ts gs rs N k = true) :
    joT (coC X Y k N) (cpL X Y ts gs rs k N) = cjT X Y ts gs rs N k ∧ joM (coC X Y k N) (cpL X Y ts gs rs k N) = cjM X Y ts gs rs N k ∧ joR (coC X Y k N) (cpL X Y ts gs rs k N) = cjR X Y ts gs rs N k := by
  rw [← h.b] at hb
  exact jo_yes hb

/-- Whether there is a coarse model. -/
def cmB (X Y Z : Nat) (ts gs rs : List Int) : Bool := moB (X : Int) (Y : Int) (Z : Int) ts gs rs && cjAll X Y ts gs rs (X * Y * Z) (coQ X Y Z)
def cmX (X Y Z : Nat) (ts gs rs : List Int) (n : Int) : Int := if cmB X Y Z ts gs rs then n else 0
def cmL (X Y Z : Nat) (ts gs rs : List Int) (f : Nat → Int) : List Int := if cmB X Y Z ts gs rs then byP f (coQ X Y Z) else []
/-- The answer of CoarseModel. -/
def GivesCo (w : World) (X Y Z : Nat) (ts gs rs : List Int) : Ending → World → Prop :=
  GivesMod3 w (cmX X Y Z ts gs rs (((X : Int) + 1) / 2)) (cmX X Y Z ts gs rs (((Y : Int) + 1) / 2)) (cmX X Y Z ts gs rs (Z : Int)) (cmL X Y Z ts gs rs (cjT X Y ts gs rs (X * Y * Z))) (cmL X Y Z ts gs rs (cjG X Y ts gs rs (X * Y * Z))) (cmL X Y Z ts gs rs (cjR X Y ts gs rs (X * Y * Z))) (cmX X Y Z ts gs rs (cjGap X Y ts gs rs (X * Y * Z) (coQ X Y Z))) (cmB X Y Z ts gs rs)
theorem givesCo_no {w : World} {X Y Z : Nat} {ts gs rs : List Int} (h : cmB X Y Z ts gs rs = false) : GivesCo w X Y Z ts gs rs = GivesMod3 w 0 0 0 [] [] [] 0 false := by
  unfold GivesCo cmX cmL
  rw [h]
  simp
theorem givesCo_yes {w : World} {X Y Z : Nat} {ts gs rs : List Int} (h : cmB X Y Z ts gs rs = true) : GivesCo w X Y Z ts gs rs = GivesMod3 w (((X : Int) + 1) / 2) (((Y : Int) + 1) / 2) (Z : Int) (byP (cjT X Y ts gs rs (X * Y * Z)) (coQ X Y Z)) (byP (cjG X Y ts gs rs (X * Y * Z)) (coQ X Y Z)) (byP (cjR X Y ts gs rs (X * Y * Z)) (coQ X Y Z)) (cjGap X Y ts gs rs (X * Y * Z) (coQ X Y Z)) true := by
  unfold GivesCo cmX cmL
  rw [h]
  simp
/-- The world behind the head of a function over a model that answers one. -/
structure HeadM (w W : World) (x y z : Int) (u1 u2 u3 : Value) : Prop where
  m : Box6 W w.heap.size x y z u1 u2 u3
  r : Six W (w.heap.size + 1) 0 0 0 (.slice none 0 0) (.slice none 0 0) (.slice none 0 0)
  b : Below w.heap.size w W
theorem HeadM.of (w : World) (x y z : Int) (u1 u2 u3 : Value) : HeadM w ((w.alloc (.cells #[.int .i64 x, .int .i64 y, .int .i64 z, u1, u2, u3] 49)).alloc (.cells #[.int .i64 0, .int .i64 0, .int .i64 0, .slice none 0 0, .slice none 0 0, .slice none 0 0] 49)) x y z u1 u2 u3 :=
  ⟨(Box6.new _ _ _ _ _ _ _ _).below ((Below.refl _ _).alloc (Nat.le_refl _) _), by
    have := Six.new (w.alloc (.cells #[.int .i64 x, .int .i64 y, .int .i64 z, u1, u2, u3] 49)) 0 0 0 (.slice none 0 0) (.slice none 0 0) (.slice none 0 0) 49
    simp at this
    exact this, ((Below.refl _ _).alloc (Nat.le_refl _) _).alloc (by simp) _⟩
theorem HeadM.below {w W W' : World} {x y z : Int} {u1 u2 u3 : Value} (h : HeadM w W x y z u1 u2 u3) (hb : Below W.heap.size W W') : HeadM w W' x y z u1 u2 u3 := ⟨h.m.below hb, h.r.below hb, h.b.trans (hb.mono h.b.size)⟩

end Go.Proofs.YtmimilchldjkbaaDoor
