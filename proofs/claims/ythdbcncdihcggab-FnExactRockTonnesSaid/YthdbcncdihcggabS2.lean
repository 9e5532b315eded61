/-
  The places that are wanted rise, and their sums; the tonnes of each rock: plain facts.
-/
import Derived.Test.YthdbcncdihcggabM10
import Derived.Test.YthdbcncdihcggabM7
namespace Go.Proofs.Ythdbcncdihcggab
open Go.RowKit
set_option linter.unusedVariables false

theorem getD_left (xs : List Int) (a : Int) {k : Nat} (h : k < xs.length) : (xs ++ [a]).getD k 0 = xs.getD k 0 := by
  simp [List.getD_eq_getElem?_getD, List.getElem?_append_left h]
theorem getD_last (xs : List Int) (a : Int) : (xs ++ [a]).getD xs.length 0 = a := by
  simp [List.getD_eq_getElem?_getD]
theorem prev_left (xs : List Int) (a : Int) : ∀ {k : Nat}, k ≤ xs.length → prevOf (xs ++ [a]) k = prevOf xs k
  | 0, _ => rfl
  | k + 1, h => by simp only [prevOf]; exact getD_left xs a (by omega)
theorem sel_ris (p : Int → Bool) : ∀ n : Nat, RisTo n (sel p n) (sel p n).length
  | 0 => fun j hj => by simp [sel] at hj
  | n + 1 => by
    have ih := sel_ris p n
    cases hp : p n
    · rw [sel_miss hp]
      intro j hj
      have := ih j hj
      omega
    · rw [sel_hit hp]
      intro j hj
      rw [List.length_append, List.length_singleton] at hj
      by_cases h : j < (sel p n).length
      · rw [prev_left _ _ (by omega), getD_left _ _ h]
        have := ih j h
        omega
      · obtain rfl : j = (sel p n).length := by omega
        rw [prev_left _ _ (Nat.le_refl _), getD_last]
        refine ⟨?_, by omega⟩
        cases hl : (sel p n).length with
        | zero => simp only [prevOf]; omega
        | succ m => simp only [prevOf]; exact (ih m (by omega)).2
theorem sel_risB (p : Int → Bool) {n : Nat} {N : Int} (h : N = n) : risB N (sel p n) = true := by subst h; exact ris_true (sel_ris p n)
theorem sel_sum (ts : List Int) (p : Int → Bool) : ∀ n : Nat, sumT ts (sel p n) = sumN (fun k => if p k then ts.getD k 0 else 0) n
  | 0 => rfl
  | n + 1 => by
    have ih := sel_sum ts p n
    rw [sumN_succ]
    cases hp : p n
    · rw [sel_miss hp, ih]; simp
    · rw [sel_hit hp]
      unfold sumT at ih ⊢
      rw [List.length_append, List.length_singleton, sumN_succ, ← ih]
      congr 1
      · exact sumN_congr fun k hk => by unfold tonF; rw [getD_left _ _ hk]
      · unfold tonF; rw [getD_last]; simp

/-- The tonnes of place k if it has the rock r. -/
def rockF (ts rs : List Int) (r : Nat) (k : Nat) : Int := if rs.getD k 0 == (r : Int) then ts.getD k 0 else 0
/-- The tonnes of each rock among the first k places. -/
def rockL (ts rs : List Int) (k : Nat) : List Int := (List.range 5).map fun r => sumN (rockF ts rs r) k
/-- The tonnes of the first j rocks; 0 for the others. -/
def rockP (ts rs : List Int) (n j : Nat) : List Int := (List.range 5).map fun r => if r < j then sumN (rockF ts rs r) n else 0
theorem rockL_len (ts rs : List Int) (k : Nat) : (rockL ts rs k).length = 5 := by simp [rockL]
theorem rockP_len (ts rs : List Int) (n j : Nat) : (rockP ts rs n j).length = 5 := by simp [rockP]
theorem rockL_zero (ts rs : List Int) : rockL ts rs 0 = List.replicate 5 0 := by simp [rockL, sumN, List.range_succ, List.replicate]
theorem rockP_zero (ts rs : List Int) (n : Nat) : rockP ts rs n 0 = List.replicate 5 0 := by simp [rockP, List.range_succ, List.replicate]
theorem rockP_all (ts rs : List Int) (n : Nat) : rockP ts rs n 5 = rockL ts rs n := by
  simp [rockP, rockL, List.range_succ]
theorem rockL_getD (ts rs : List Int) (k r : Nat) (h : r < 5) : (rockL ts rs k).getD r 0 = sumN (rockF ts rs r) k := by
  simp [rockL, h]
theorem rockL_set (ts rs : List Int) (k r : Nat) (hr : rs.getD k 0 = (r : Int)) (h : r < 5) : (rockL ts rs k).set r (sumN (rockF ts rs r) k + ts.getD k 0) = rockL ts rs (k + 1) := by
  apply List.ext_getElem
  · simp [rockL]
  · intro i h1 h2
    simp only [rockL, List.getElem_set, List.getElem_map, List.getElem_range, sumN_succ]
    by_cases e : r = i
    · subst e
      simp only [if_true]
      congr 1
      unfold rockF; rw [hr]; simp
    · simp only [e, if_false]
      unfold rockF at *
      rw [hr]
      have : ((r : Int) == (i : Int)) = false := by simp; omega
      simp [this]
theorem rockP_set (ts rs : List Int) (n j : Nat) (h : j < 5) : (rockP ts rs n j).set j (sumN (rockF ts rs j) n) = rockP ts rs n (j + 1) := by
  apply List.ext_getElem
  · simp [rockP]
  · intro i h1 h2
    simp only [rockP, List.getElem_set, List.getElem_map, List.getElem_range]
    by_cases e : j = i
    · subst e
      simp
    · simp only [e, if_false]
      by_cases l : i < j
      · simp [l, show i < j + 1 by omega]
      · simp [l, show ¬ i < j + 1 by omega]
theorem rock_sum (ts rs : List Int) (r n : Nat) : sumT ts (sel (pAt (fun t => t == (r : Int)) rs) n) = sumN (rockF ts rs r) n := by
  rw [sel_sum]
  exact sumN_congr fun k _ => rfl
theorem rock_box {x y z : Int} {ts gs rs : List Int} (h : moB x y z ts gs rs = true) (r : Nat) {k : Nat} (hk : (k : Int) < x * y * z) : 0 ≤ rockF ts rs r k ∧ rockF ts rs r k ≤ 10000000 := by
  obtain ⟨k1, k2, k3, t0, t1, _⟩ := metal_box h hk
  unfold rockF
  split <;> omega
end Go.Proofs.Ythdbcncdihcggab
