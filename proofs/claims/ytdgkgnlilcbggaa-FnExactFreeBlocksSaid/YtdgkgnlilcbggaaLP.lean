/-
  Contracts: a number put into a rising list, in the model.
-/
import Derived.Test.YtdgkgnlilcbggaaAQ
import Derived.BigQuiet
namespace Go.Proofs.Ytdgkgnlilcbggaa
open Go.RowKit
set_option linter.unusedVariables false

/-- Where x comes in a rising list; the list with x. -/
def posL (ys : List Int) (x : Int) : Nat := (ys.takeWhile fun y => decide (y < x)).length
def putI (ys : List Int) (x : Int) : List Int := if posL ys x < ys.length ∧ ys.getD (posL ys x) 0 = x then ys else (ys.take (posL ys x) ++ [x]) ++ ys.drop (posL ys x)
theorem posL_le : ∀ (ys : List Int) (x : Int), posL ys x ≤ ys.length
  | [], x => Nat.le_refl _
  | y :: ys, x => by
    have := posL_le ys x
    unfold posL at *
    rw [List.takeWhile_cons]
    split <;> simp <;> omega
theorem posL_lt : ∀ (ys : List Int) (x : Int) {k : Nat}, k < posL ys x → ys.getD k 0 < x
  | [], x, k, h => by simp [posL] at h
  | y :: ys, x, k, h => by
    unfold posL at h
    rw [List.takeWhile_cons] at h
    split at h
    · rename_i hy
      cases k with
      | zero => simpa using hy
      | succ k =>
        have := posL_lt ys x (k := k) (by unfold posL; simp at h; omega)
        simpa using this
    · simp at h
theorem posL_at : ∀ (ys : List Int) (x : Int), posL ys x < ys.length → ¬ ys.getD (posL ys x) 0 < x
  | [], x, h => by simp [posL] at h
  | y :: ys, x, h => by
    unfold posL at h ⊢
    rw [List.takeWhile_cons] at h ⊢
    split at h
    · rename_i hy
      rw [if_pos hy]
      have := posL_at ys x (by unfold posL; simp at h; omega)
      unfold posL at this
      simpa using this
    · rename_i hy
      rw [if_neg hy]
      simpa using hy
theorem cut_forms {w : World} {B : Nat} {A : Option Addr} {L c q : Nat} {xs : List Int} (hx : xs.length = L) (hq : q ≤ L) (h : Row w B (.slice A L c) xs) :
    (A = none ∧ Src w 1 none (L - q) (c - q) (ints (xs.drop q))) ∨ (∃ g, A = some ⟨g, 0, none⟩ ∧ c = q ∧ Src w 1 (some ⟨g, 0, none⟩) 0 0 (ints (xs.drop q))) ∨ (∃ g, A = some ⟨g, 0, none⟩ ∧ ¬ c = q ∧ Src w 1 (some ⟨g, q, none⟩) (L - q) (c - q) (ints (xs.drop q))) := by
  obtain ⟨hform, kc, hsrc⟩ := row_src hx h
  obtain ⟨_, s2⟩ := hsrc q hq
  rcases hform with e | ⟨g, e⟩
  · subst e
    exact .inl ⟨rfl, by simpa using s2⟩
  · subst e
    by_cases e' : c = q
    · rw [if_pos e', e', Nat.sub_self, show L - q = 0 by omega] at s2
      exact .inr (.inl ⟨g, rfl, e', s2⟩)
    · rw [if_neg e'] at s2
      exact .inr (.inr ⟨g, rfl, e', by simpa [addr_add] using s2⟩)
/-- A list and a bool. -/
def GivesRow2 (w : World) (xs : List Int) (b : Bool) (e : Ending) (w' : World) : Prop := ∃ v, e = .returned (.tuple #[v, .bool b]) ∧ Row w' w.heap.size v xs ∧ Below w.heap.size w w'
def PutGives (w : World) (B : Nat) (ys : List Int) (e : Ending) (w' : World) : Prop := ∃ v, e = .returned v ∧ Row w' B v ys ∧ Below w.heap.size w w'

/-- A list of ints cut at a place, its block known. -/
theorem cut_some {w : World} {B g L c q : Nat} {xs : List Int} (hx : xs.length = L) (hq : q ≤ L) (h : Row w B (.slice (some ⟨g, 0, none⟩) L c) xs) :
    (c = q ∧ Src w 1 (some ⟨g, 0, none⟩) 0 0 (ints (xs.drop q))) ∨ (¬ c = q ∧ Src w 1 (some ⟨g, q, none⟩) (L - q) (c - q) (ints (xs.drop q))) := by
  rcases cut_forms hx hq h with ⟨e, _⟩ | ⟨g', e, h1, h2⟩ | ⟨g', e, h1, h2⟩
  · cases e
  · cases e; exact .inl ⟨h1, h2⟩
  · cases e; exact .inr ⟨h1, h2⟩
theorem row_of2 {w : World} {B n : Nat} {v : Value} {X Y : List Int} (h : w.ownsRow B 3 1 v n (ints X ++ ints Y)) : Row w B v (X ++ Y) := by
  have hl := h.1
  have e : ints (X ++ Y) = ints X ++ ints Y := by simp [ints]
  rw [← e, ints_len, Nat.mul_one] at hl
  unfold Row
  rw [e, hl]
  exact h

end Go.Proofs.Ytdgkgnlilcbggaa
