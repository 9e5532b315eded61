/-
  Contracts: CountProfiles, in the program.
-/
import Derived.Test.YtmkbjkmpincogaaSM
import Derived.Test.YtmkbjkmpincogaaSR
import Derived.Test.YtmkbjkmpincogaaC6
namespace Go.Proofs.Ytmkbjkmpincogaa
open Go.RowKit
set_option linter.unusedVariables false

/-- The part of a row for the depths beside depth d. -/
def nearL (l : List Int) (d : Nat) : List Int := (l.drop (loN d)).take (cnN d l.length)
theorem nearL_len {l : List Int} {d : Nat} (h : d < l.length) : (nearL l d).length = cnN d l.length := by
  have := near_facts h
  unfold nearL
  rw [List.length_take, List.length_drop]
  omega
theorem nearL_at {l : List Int} {d j : Nat} (h : d < l.length) (hj : j < cnN d l.length) : (nearL l d).getD j 0 = l.getD (loN d + j) 0 := by
  have := near_facts h
  unfold nearL
  rw [List.getD_eq_getElem?_getD, List.getD_eq_getElem?_getD, List.getElem?_take, if_pos hj, List.getElem?_drop]
theorem row_near {w : World} {B g c n d : Nat} {xs : List Int} (hn : n = xs.length) (h : Row w B (.slice (some ⟨g, 0, none⟩) n c) xs) (hd : d < n) (hm : n ≤ 1000000) : Seen w (.slice (some ⟨g, loN d, none⟩) (cnN d n) (cnN d n)) (nearL xs d) := by
  subst hn
  have e := nearL_len hd
  have f := near_facts hd
  refine ⟨_, _, by rw [e], by rw [e]; unfold maxLen; omega, fun _ => ⟨g, loN d, rfl, ?_, fun k hk => ?_⟩⟩
  · exact lt_of_cell (h.cell 0 (by omega))
  · rw [e] at hk
    rw [nearL_at hd hk]
    exact h.cell _ (by omega)
/-- One step of the count. -/
def stepC (l : List Int) : List Int := (List.range l.length).map fun d => preS (nearL l d) (cnN d l.length)
theorem stepC_len (l : List Int) : (stepC l).length = l.length := by simp [stepC]
theorem stepC_at (l : List Int) {d : Nat} (h : d < l.length) : (stepC l).getD d 0 = preS (nearL l d) (cnN d l.length) := by simp [stepC, h]
def cntR (m : Nat) : Nat → List Int
  | 0 => List.replicate m 1
  | k + 1 => stepC (cntR m k)
theorem cnt_len (m : Nat) : ∀ k, (cntR m k).length = m
  | 0 => by simp [cntR]
  | k + 1 => by rw [cntR, stepC_len, cnt_len m k]
theorem cnt_box (m : Nat) : ∀ k i, i < m → 0 ≤ (cntR m k).getD i 0 ∧ (cntR m k).getD i 0 ≤ 3 ^ k
  | 0, i, hi => by simp [cntR, hi]
  | k + 1, i, hi => by
    have ih := cnt_box m k
    have hl := cnt_len m k
    rw [cntR, stepC_at _ (by rw [hl]; exact hi), hl]
    have f := near_facts hi
    have key : ∀ j, j ≤ cnN i m → 0 ≤ preS (nearL (cntR m k) i) j ∧ preS (nearL (cntR m k) i) j ≤ 3 ^ k * (j : Int) := by
      intro j
      induction j with
      | zero => intro _; simp [preS]
      | succ j ih2 =>
        intro hj
        have a := ih2 (by omega)
        have b := ih (loN i + j) (by omega)
        rw [preS, nearL_at (by rw [hl]; exact hi) (by rw [hl]; omega)]
        refine ⟨by omega, ?_⟩
        rw [show ((j + 1 : Nat) : Int) = (j : Int) + 1 by omega, Int.mul_add, Int.mul_one]
        omega
    have c := key _ (Nat.le_refl _)
    refine ⟨c.1, Int.le_trans c.2 ?_⟩
    rw [Int.pow_succ]
    have p : (0 : Int) ≤ 3 ^ k := Int.le_of_lt (Int.pow_pos (by omega))
    exact Int.mul_le_mul_of_nonneg_left (by omega) p
theorem pow_small {k : Nat} (h : k ≤ 8) : (3 : Int) ^ k ≤ 6561 := by
  rcases (show k = 0 ∨ k = 1 ∨ k = 2 ∨ k = 3 ∨ k = 4 ∨ k = 5 ∨ k = 6 ∨ k = 7 ∨ k = 8 by omega) with rfl | rfl | rfl | rfl | rfl | rfl | rfl | rfl | rfl <;> decide
theorem tame_small {l : List Int} (hl : l.length ≤ 1000) (h : ∀ i, i < l.length → 0 ≤ l.getD i 0 ∧ l.getD i 0 ≤ 6561) : Tame l := by
  have key : ∀ j, j ≤ l.length → 0 ≤ preS l j ∧ preS l j ≤ 6561 * (j : Int) := by
    intro j
    induction j with
    | zero => intro _; simp [preS]
    | succ j ih2 =>
      intro hj
      have a := ih2 (by omega)
      have b := h j (by omega)
      rw [preS]
      omega
  intro k hk
  have := key k hk
  omega
theorem cnt_tame {m k : Nat} (hm : m ≤ 7) (hk : k ≤ 8) : Tame (cntR m k) := tame_small (by rw [cnt_len]; omega) fun i hi => by
  rw [cnt_len] at hi
  have := cnt_box m k i hi
  have := pow_small hk
  omega
theorem near_tame {m k d : Nat} (hm : m ≤ 7) (hk : k ≤ 8) (hd : d < m) : Tame (nearL (cntR m k) d) := by
  have hl := cnt_len m k
  have f := near_facts hd
  refine tame_small (by rw [nearL_len (by rw [hl]; exact hd), hl]; omega) fun i hi => ?_
  rw [nearL_len (by rw [hl]; exact hd), hl] at hi
  rw [nearL_at (by rw [hl]; exact hd) (by rw [hl]; exact hi)]
  have := cnt_box m k (loN d + i) (by omega)
  have := pow_small hk
  omega
def cpB (c d : Int) : Bool := decide ((1 ≤ c ∧ c ≤ 8) ∧ 1 ≤ d ∧ d ≤ 6)
def cpN (c d : Int) : Int := if cpB c d then preS (cntR (d.toNat + 1) (c.toNat - 1)) (d.toNat + 1) else 0

/-- A row in a block just as long, whole. -/
theorem row_whole {w : World} {B g n : Nat} {xs : List Int} (hn : n = xs.length) (h : Row w B (.slice (some ⟨g, 0, none⟩) n n) xs) (h0 : 0 < n) : w.heap[g]? = some (.cells (ints xs).toArray 3 (0, 0)) := by
  subst hn
  rcases h.2 with ⟨e, e0⟩ | ⟨g', cap, cur, e, hb, hg, hn, hm, hs, ht⟩
  · cases e
  · injection e with e1 e2 e3
    simp at e1
    subst e1 e3
    rw [hg]
    rw [Nat.mul_one] at hs ht
    rw [List.take_of_length_le (by simp; omega)] at ht
    rw [← ht]
theorem whole_row {w : World} {B g n : Nat} {xs : List Int} (hn : n = xs.length) (hm : n ≤ 1000000) (hB : B ≤ g) (h : w.heap[g]? = some (.cells (ints xs).toArray 3 (0, 0))) : Row w B (.slice (some ⟨g, 0, none⟩) n n) xs := by
  subst hn
  refine ⟨by rw [ints_len, Nat.mul_one], .inr ⟨g, xs.length, _, rfl, hB, h, Nat.le_refl _, by unfold maxLen; omega, by simp [ints], ?_⟩⟩
  rw [Nat.mul_one]
  show List.take xs.length (ints xs) = ints xs
  exact List.take_of_length_le (Nat.le_of_eq (ints_len xs))
/-- Numbers that the first j places of a step have. -/
theorem step_all {l ys : List Int} {m : Nat} (hm : l.length = m) (hy : ys.length = m) (h : ∀ i, i < m → ys.getD i 0 = (stepC l).getD i 0) : ys = stepC l := by
  apply List.ext_getElem
  · rw [stepC_len]; omega
  · intro i h1 h2
    have := h i (by omega)
    simpa [List.getD_eq_getElem?_getD, h1, h2] using this
theorem set_first {ys : List Int} {m j : Nat} {F : Nat → Int} (hy : ys.length = m) (hj : j < m) (h : ∀ i, i < j → ys.getD i 0 = F i) : ∀ i, i < j + 1 → (ys.set j (F j)).getD i 0 = F i := fun i hi => by
  by_cases e : i = j
  · subst e; simp [hy, hj]
  · rw [show (ys.set j (F j)).getD i 0 = ys.getD i 0 by simp [List.getD_eq_getElem?_getD, Ne.symm e]]
    exact h i (by omega)
end Go.Proofs.Ytmkbjkmpincogaa
