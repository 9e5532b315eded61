/-
  Contracts of the law's own helpers over models: lists and models copied, measured and compared.
-/
import Derived.Test.YtgibkjjjnfjbkaaDoorC6
import Derived.Test.YtgibkjjjnfjbkaaDoorC3
namespace Go.Proofs.YtgibkjjjnfjbkaaDoor
open Go.RowKit

/-- The slice v reads as the integers xs in the world w. -/
def Seen (w : World) (v : Value) (xs : List Int) : Prop :=
  ∃ A c, v = .slice A xs.length c ∧ xs.length ≤ maxLen ∧ (0 < xs.length → ∃ b off, A = some ⟨b, off, none⟩ ∧ b < w.heap.size ∧ ∀ k : Nat, k < xs.length → w.cell? ⟨b, off + k, none⟩ = some (.int .i64 (xs.getD k 0)))
theorem Seen.below {w w' : World} {v : Value} {xs : List Int} (h : Seen w v xs) (hb : Below w.heap.size w w') : Seen w' v xs := by
  obtain ⟨A, c, rfl, hm, h⟩ := h
  refine ⟨A, c, rfl, hm, fun h0 => ?_⟩
  obtain ⟨b, off, rfl, hlt, hc⟩ := h h0
  exact ⟨b, off, rfl, Nat.lt_of_lt_of_le hlt hb.size, fun k hk => by rw [hb.cell (p := ⟨b, off + k, none⟩) hlt]; exact hc k hk⟩
theorem Row.seen {w : World} {B : Nat} {v : Value} {xs : List Int} (h : Row w B v xs) : Seen w v xs := by
  rcases h.2 with ⟨rfl, h0⟩ | ⟨g, cap, cur, rfl, _, hg, hn, hm, _⟩
  · exact ⟨none, 0, by rw [h0], by omega, fun h1 => by omega⟩
  · refine ⟨_, _, rfl, by omega, fun h0 => ⟨g, 0, rfl, ?_, fun k hk => by rw [Nat.zero_add]; exact h.cell k hk⟩⟩
    obtain ⟨g', c', e, _, hl⟩ := h.form h0
    simp at e
    rw [e.1]; exact hl

def GivesRow (w : World) (xs : List Int) (e : Ending) (w' : World) : Prop := ∃ v, e = .returned v ∧ Row w' w.heap.size v xs ∧ Below w.heap.size w w'
theorem int_info : (Tryd.prog.info? 3).map (fun i => (i.zero, i.size, i.bytes)) = some (some (.int .i64 0), 1, 8) := by kernel_rfl

/-- The first j are copied, the others are 0. -/
def half (xs : List Int) (j : Nat) : List Int := xs.take j ++ List.replicate (xs.length - j) 0
theorem half_len (xs : List Int) (j : Nat) (h : j ≤ xs.length) : (half xs j).length = xs.length := by simp [half]; omega
theorem half_zero (xs : List Int) : half xs 0 = List.replicate xs.length 0 := by simp [half]
theorem half_all (xs : List Int) : half xs xs.length = xs := by simp [half]
theorem half_set (xs : List Int) (j : Nat) (h : j < xs.length) : (half xs j).set j (xs.getD j 0) = half xs (j + 1) := by
  apply List.ext_getElem
  · simp only [List.length_set]; rw [half_len _ _ (by omega), half_len _ _ (by omega)]
  · intro i h1 h2
    simp only [half, List.getElem_set, List.getElem_append, List.length_take, List.getElem_take, List.getElem_replicate]
    simp only [List.length_set] at h1
    rw [half_len _ _ (by omega)] at h1
    by_cases e : j = i
    · subst e
      simp [h, show j < min (j + 1) xs.length by omega]
    · simp only [e, if_false]
      by_cases l : i < j
      · simp [show i < min j xs.length by omega, show i < min (j + 1) xs.length by omega]
      · simp [show ¬ i < min j xs.length by omega, show ¬ i < min (j + 1) xs.length by omega]
theorem row_zeros (w : World) (n : Nat) (hn : n ≤ maxLen) : Row (w.alloc (.cells (madeCells #[.int .i64 0] n) 3)) w.heap.size (.slice (some ⟨w.heap.size, 0, none⟩) n n) (List.replicate n 0) := by
  have := World.ownsRow_lit (base := w.heap.size) (e := 3) (size := 1) w (madeCells #[.int .i64 0] n) n (Nat.le_refl _) hn (by rw [size_madeCells]; simp)
  unfold Row
  rw [List.length_replicate, show ints (List.replicate n 0) = (madeCells #[.int .i64 0] n).toList by rw [toList_madeCells_one]; simp [ints]]
  exact this

def Apart (a b : Option Nat) : Prop := a = none ∨ a ≠ b
theorem Apart.symm {a b : Option Nat} (h : Apart a b) : Apart b a := by
  unfold Apart at *
  cases a <;> cases b <;> simp_all
  omega
end Go.Proofs.YtgibkjjjnfjbkaaDoor
