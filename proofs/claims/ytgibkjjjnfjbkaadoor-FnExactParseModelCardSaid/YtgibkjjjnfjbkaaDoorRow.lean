/-
  Rows of integers that the calls make: plain facts.
-/
import Derived.Laws.OwnMore
import Derived.Deep.AppendLies
import Derived.Deep.Onto
import Derived.Below
import Derived.WalkKit
namespace Go.Proofs.YtgibkjjjnfjbkaaDoor
open Go Go.RowKit

def ints (xs : List Int) : List Value := xs.map (Value.int .i64)
theorem ints_len (xs : List Int) : (ints xs).length = xs.length := by simp [ints]

/-- The slice v is a row of the integers xs, in memory from block B on. -/
def Row (w : World) (B : Nat) (v : Value) (xs : List Int) : Prop := w.ownsRow B 3 1 v xs.length (ints xs)

theorem Row.below {w w' : World} {B : Nat} {v : Value} {xs : List Int} (h : Row w B v xs) (hb : Below w.heap.size w w') : Row w' B v xs :=
  World.ownsRow.kept (row := none) h ⟨hb.os, hb.tape, hb.output, hb.size, fun k hk _ => hb.block k hk⟩ (by cases v.ownBlock <;> simp)
theorem Row.mono {w : World} {B B' : Nat} {v : Value} {xs : List Int} (h : Row w B v xs) (hB : B' ≤ B) : Row w B' v xs := World.ownsRow.mono h hB
theorem Row.nil (w : World) (B : Nat) : Row w B (.slice none 0 0) [] := World.ownsRow_nil _ _ _ _
theorem Row.shape {w : World} {B : Nat} {v : Value} {xs : List Int} (h : Row w B v xs) : ∃ A c, v = .slice A xs.length c := by
  rcases h.2 with ⟨rfl, h0⟩ | ⟨g, cap, cur, rfl, _⟩
  · exact ⟨none, 0, by rw [h0]⟩
  · exact ⟨_, _, rfl⟩
theorem Row.form {w : World} {B : Nat} {v : Value} {xs : List Int} (h : Row w B v xs) (h0 : 0 < xs.length) : ∃ g c, v = .slice (some ⟨g, 0, none⟩) xs.length c ∧ B ≤ g ∧ g < w.heap.size := World.ownsRow.form h h0
theorem Row.cell {w : World} {B g c : Nat} {xs : List Int} (h : Row w B (.slice (some ⟨g, 0, none⟩) xs.length c) xs) (k : Nat) (hk : k < xs.length) : w.cell? ⟨g, k, none⟩ = some (.int .i64 (xs.getD k 0)) := by
  rw [World.ownsRow.cellAt h k (by omega)]
  simp [ints, hk]
theorem Row.frozen {w : World} {B g c : Nat} {xs : List Int} (h : Row w B (.slice (some ⟨g, 0, none⟩) xs.length c) xs) (k : Nat) : w.frozen? ⟨g, k, none⟩ = false := World.ownsRow.frozenAt h k

/-- The numbers k0, k0 + 1, .. -/
def marks (k0 : Int) (n : Nat) : List Int := (List.range n).map fun (t : Nat) => k0 + t
theorem marks_len (k0 : Int) (n : Nat) : (marks k0 n).length = n := by simp [marks]
theorem marks_getD (k0 : Int) (n t : Nat) (h : t < n) : (marks k0 n).getD t 0 = k0 + t := by
  simp [marks, h]
/-- The first j are marked. -/
def marked (k0 : Int) (xs : List Int) (j : Nat) : List Int := marks k0 j ++ xs.drop j
theorem marked_len (k0 : Int) (xs : List Int) (j : Nat) (h : j ≤ xs.length) : (marked k0 xs j).length = xs.length := by simp [marked, marks_len]; omega
theorem marked_zero (k0 : Int) (xs : List Int) : marked k0 xs 0 = xs := by simp [marked, marks]
theorem marked_all (k0 : Int) (xs : List Int) : marked k0 xs xs.length = marks k0 xs.length := by simp [marked]
theorem marked_set (k0 : Int) (xs : List Int) (j : Nat) (h : j < xs.length) : (marked k0 xs j).set j (k0 + j) = marked k0 xs (j + 1) := by
  apply List.ext_getElem
  · simp only [List.length_set]; rw [marked_len _ _ _ (by omega), marked_len _ _ _ (by omega)]
  · intro i h1 h2
    simp only [marked, marks, List.getElem_set, List.getElem_append, List.length_map, List.length_range, List.getElem_map, List.getElem_range, List.getElem_drop]
    by_cases e : j = i
    · subst e; simp
    · by_cases l : i < j
      · simp [l, e, show i < j + 1 by omega]
      · simp only [e, if_false, l, dite_false, show ¬ i < j + 1 by omega]
        congr 1; omega

/-- The first n blocks for which p holds. -/
def sel (p : Int → Bool) : Nat → List Int
  | 0 => []
  | k + 1 => sel p k ++ (if p k then [(k : Int)] else [])
theorem sel_len (p : Int → Bool) : ∀ k, (sel p k).length ≤ k
  | 0 => Nat.le_refl _
  | k + 1 => by
    have := sel_len p k
    unfold sel
    split <;> simp <;> omega
theorem sel_hit {p : Int → Bool} {k : Nat} (h : p k = true) : sel p (k + 1) = sel p k ++ [(k : Int)] := by rw [sel, h]; rfl
theorem sel_miss {p : Int → Bool} {k : Nat} (h : p k = false) : sel p (k + 1) = sel p k := by rw [sel, h]; simp
theorem sel_congr {p q : Int → Bool} : ∀ {n : Nat}, (∀ k : Nat, k < n → p k = q k) → sel p n = sel q n
  | 0, _ => rfl
  | n + 1, h => by rw [sel, sel, sel_congr fun k hk => h k (by omega), h n (by omega)]
end Go.Proofs.YtgibkjjjnfjbkaaDoor
