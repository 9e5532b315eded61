/-
  Rows of integers of a call's own that lie apart: a family of them; what appending to one, and storing elsewhere, leaves.
-/
import Derived.Test.YtdgkgnlilcbggaaR1
import Derived.Test.YtdgkgnlilcbggaaZE
namespace Go.Proofs.Ytdgkgnlilcbggaa
open Go.RowKit
set_option linter.unusedVariables false

/-- Block k holds cells of type T. -/
def TyAt (w : World) (k : Nat) (T : TypeId) : Prop := ∃ cs fr, w.heap[k]? = some (.cells cs T fr)
theorem TyAt.lt {w : World} {k : Nat} {T : TypeId} (h : TyAt w k T) : k < w.heap.size := by
  obtain ⟨cs, fr, h⟩ := h
  exact (Array.getElem?_eq_some_iff.1 h).1
theorem TyAt.new (w : World) (cs : Array Value) (T : TypeId) : TyAt (w.alloc (.cells cs T)) w.heap.size T := ⟨cs, (0, 0), heap_alloc_new w _⟩
theorem TyAt.same {w w' : World} {k : Nat} {T : TypeId} (h : TyAt w k T) (e : w'.heap[k]? = w.heap[k]?) : TyAt w' k T := by
  obtain ⟨cs, fr, h⟩ := h
  exact ⟨cs, fr, by rw [e]; exact h⟩
theorem TyAt.below {w w' : World} {k B : Nat} {T : TypeId} (h : TyAt w k T) (hb : Below B w w') (hk : k < B) : TyAt w' k T := h.same (hb.block k hk)
theorem TyAt.grown {w w' : World} {k : Nat} {o : Option Nat} {T : TypeId} (h : TyAt w k T) (hg : w.grownBy w' o) (hk : o ≠ some k) : TyAt w' k T := h.same (hg.block k h.lt (fun e => hk e.symm))
theorem TyAt.setCell {w : World} {k : Nat} {T : TypeId} (h : TyAt w k T) (a : Addr) (u : Value) : TyAt (w.setCell a u) k T := by
  obtain ⟨cs, fr, h⟩ := h
  by_cases e : k = a.block
  · subst e
    unfold TyAt
    simp only [World.setCell, Array.getElem?_modify, if_true, h, Option.map_some]
    exact ⟨_, _, rfl⟩
  · exact ⟨cs, fr, by rw [Below.heap_setCell _ _ _ _ e]; exact h⟩
theorem own_off {w : World} {B k s n : Nat} {e T : TypeId} {v : Value} {xs : List Value} (h : w.ownsRow B e s v n xs) (ht : TyAt w k T) (hne : T ≠ e) : v.ownBlock ≠ some k := by
  obtain ⟨cs, fr, ht⟩ := ht
  intro hk
  rcases h.2 with ⟨rfl, _⟩ | ⟨g, cap, cur, rfl, hb, hg, rest⟩
  · simp [Value.ownBlock] at hk
  · simp [Value.ownBlock] at hk
    subst hk
    rw [hg] at ht
    simp at ht
    exact hne ht.2.1.symm
theorem set_grown (w : World) (a : Addr) (u : Value) : w.grownBy (w.setCell a u) (some a.block) :=
  ⟨rfl, rfl, rfl, by simp [World.setCell], fun k hk hne => Below.heap_setCell _ _ _ _ (fun e => hne (by rw [e]))⟩
theorem grown_trans {a b c : World} {o : Option Nat} (h : a.grownBy b o) (k : b.grownBy c o) : a.grownBy c o :=
  ⟨k.os.trans h.os, k.tape.trans h.tape, k.output.trans h.output, Nat.le_trans h.size k.size, fun i hi hne => (k.block i (Nat.lt_of_lt_of_le hi h.size) hne).trans (h.block i hi hne)⟩

def upd {α : Type} (f : Nat → α) (i : Nat) (x : α) : Nat → α := fun j => if j = i then x else f j
theorem upd_same {α : Type} (f : Nat → α) (i : Nat) (x : α) : upd f i x i = x := by simp [upd]
theorem upd_far {α : Type} (f : Nat → α) {i j : Nat} (x : α) (h : j ≠ i) : upd f i x j = f j := by simp [upd, h]

/-- The slices vs 0 .. vs (N - 1) are rows xs 0 .. of the call's own, apart from each other. -/
structure Fam (w : World) (B N : Nat) (vs : Nat → Value) (xs : Nat → List Int) : Prop where
  row : ∀ i, i < N → Row w B (vs i) (xs i)
  apart : ∀ i j, i < N → j < N → i ≠ j → Apart (vs i).ownBlock (vs j).ownBlock
theorem Fam.below {w w' : World} {B N : Nat} {vs : Nat → Value} {xs : Nat → List Int} (h : Fam w B N vs xs) (hb : Below w.heap.size w w') : Fam w' B N vs xs :=
  ⟨fun i hi => (h.row i hi).below hb, h.apart⟩
theorem Fam.congr {w : World} {B N : Nat} {vs : Nat → Value} {xs ys : Nat → List Int} (h : Fam w B N vs xs) (e : ∀ i, i < N → xs i = ys i) : Fam w B N vs ys :=
  ⟨fun i hi => by rw [← e i hi]; exact h.row i hi, h.apart⟩
theorem Fam.far {w w' : World} {B N k : Nat} {T : TypeId} {vs : Nat → Value} {xs : Nat → List Int} (h : Fam w B N vs xs) (ht : TyAt w k T) (hT : T ≠ 3) (hg : w.grownBy w' (some k)) : Fam w' B N vs xs :=
  ⟨fun i hi => World.ownsRow.kept (h.row i hi) hg (.inr (own_off (h.row i hi) ht hT)), h.apart⟩
/-- One row has turned in its place. -/
theorem Fam.turn {w w' : World} {B N i : Nat} {vs : Nat → Value} {xs : Nat → List Int} {ys : List Int} (h : Fam w B N vs xs) (hi : i < N) (hr : Row w' B (vs i) ys) (hg : w.grownBy w' (vs i).ownBlock) : Fam w' B N vs (upd xs i ys) :=
  ⟨fun j hj => by
    by_cases e : j = i
    · subst e; rw [upd_same]; exact hr
    · rw [upd_far _ _ e]; exact World.ownsRow.kept (h.row j hj) hg (h.apart j i hj hi e), h.apart⟩
/-- One row has grown, in its place or in a new block. -/
theorem Fam.app {w w' : World} {B N i : Nat} {vs : Nat → Value} {xs : Nat → List Int} {v' : Value} {ys : List Int} (h : Fam w B N vs xs) (hi : i < N) (hr : Row w' B v' ys) (hg : w.grownBy w' (vs i).ownBlock) (ho : (vs i).ownBlock = v'.ownBlock ∨ v'.ownBlock = some w.heap.size) : Fam w' B N (upd vs i v') (upd xs i ys) := by
  have hrow : ∀ j, j < N → Row w' B (upd vs i v' j) (upd xs i ys j) := fun j hj => by
    by_cases e : j = i
    · subst e; rw [upd_same, upd_same]; exact hr
    · rw [upd_far _ _ e, upd_far _ _ e]; exact World.ownsRow.kept (h.row j hj) hg (h.apart j i hj hi e)
  have key : ∀ j, j < N → j ≠ i → Apart (vs j).ownBlock v'.ownBlock := fun j hj hne => by
    rcases ho with ho | ho
    · rw [← ho]; exact h.apart j i hj hi hne
    · cases e : (vs j).ownBlock with
      | none => exact .inl rfl
      | some k =>
        refine .inr fun e' => ?_
        have := (World.ownsRow.lt (h.row j hj) k e).2
        rw [ho] at e'
        simp at e'
        omega
  refine ⟨hrow, fun a b ha hb hne => ?_⟩
  by_cases ea : a = i
  · subst ea
    rw [upd_same, upd_far _ _ (Ne.symm hne)]
    exact (key b hb (Ne.symm hne)).symm
  · rw [upd_far _ _ ea]
    by_cases eb : b = i
    · subst eb; rw [upd_same]; exact key a ha hne
    · rw [upd_far _ _ eb]; exact h.apart a b ha hb hne
theorem row_two {w3 : World} {B n : Nat} {v' : Value} {xs : List Int} {a b : Int} (h : w3.ownsRow B 3 1 v' n (ints xs ++ [.int .i64 a, .int .i64 b])) (hn : n = xs.length + 2) : Row w3 B v' (xs ++ [a, b]) := by
  subst hn
  unfold Row
  rw [show ints (xs ++ [a, b]) = ints xs ++ [.int .i64 a, .int .i64 b] by simp [ints], List.length_append]
  exact h
theorem row_one {w3 : World} {B n : Nat} {v' : Value} {xs : List Int} {a : Int} (h : w3.ownsRow B 3 1 v' n (ints xs ++ [.int .i64 a])) (hn : n = xs.length + 1) : Row w3 B v' (xs ++ [a]) := by
  subst hn
  unfold Row
  rw [show ints (xs ++ [a]) = ints xs ++ [.int .i64 a] by simp [ints], List.length_append]
  exact h
end Go.Proofs.Ytdgkgnlilcbggaa
