/-
  Sorting by insertion, with a comparison told as a plain function: plain facts.
-/
import Derived.Test.YthdbcncdihcggaaC6
namespace Go.Proofs.Ythdbcncdihcggaa
set_option linter.unusedVariables false

/-- Where x comes among the first k of a list: behind the last that x is not less than. -/
def posR (lt : Int → Int → Bool) (x : Int) (out : List Int) : Nat → Nat
  | 0 => 0
  | k + 1 => if lt x (out.getD k 0) then posR lt x out k else k + 1
def insAt (x : Int) (out : List Int) (k : Nat) : List Int := out.take k ++ x :: out.drop k
def sortN (lt : Int → Int → Bool) : Nat → List Int
  | 0 => []
  | i + 1 => insAt i (sortN lt i) (posR lt i (sortN lt i) i)
theorem insAt_len (x : Int) (out : List Int) (k : Nat) (h : k ≤ out.length) : (insAt x out k).length = out.length + 1 := by simp [insAt]; omega
theorem posR_le (lt : Int → Int → Bool) (x : Int) (out : List Int) : ∀ k, posR lt x out k ≤ k
  | 0 => Nat.le_refl _
  | k + 1 => by
    have := posR_le lt x out k
    unfold posR
    split <;> omega
theorem sortN_len (lt : Int → Int → Bool) : ∀ i, (sortN lt i).length = i
  | 0 => rfl
  | i + 1 => by
    have ih := sortN_len lt i
    unfold sortN
    rw [insAt_len _ _ _ (by rw [ih]; exact posR_le _ _ _ _), ih]
theorem marks_cons (a : Int) (n : Nat) : marks a (n + 1) = a :: marks (a + 1) n := by
  unfold marks
  rw [List.range_succ_eq_map, List.map_cons, List.map_map]
  congr 1
  · simp
  · apply List.map_congr_left
    intro t _
    simp; omega
/-- Place j of the sort's round i: the new number stands at j, the others as they were. -/
def srt (lt : Int → Int → Bool) (n i j : Nat) : List Int := insAt i (sortN lt i) j ++ marks ((i : Int) + 1) (n - (i + 1))
/-- The rounds before i are done. -/
def srtO (lt : Int → Int → Bool) (n i : Nat) : List Int := sortN lt i ++ marks i (n - i)
theorem srt_len (lt : Int → Int → Bool) (n i j : Nat) (hi : i < n) (hj : j ≤ i) : (srt lt n i j).length = n := by
  unfold srt
  rw [List.length_append, insAt_len _ _ _ (by rw [sortN_len]; exact hj), sortN_len, marks_len]; omega
theorem srtO_len (lt : Int → Int → Bool) (n i : Nat) (hi : i ≤ n) : (srtO lt n i).length = n := by
  unfold srtO
  rw [List.length_append, sortN_len, marks_len]; omega
theorem srtO_zero (lt : Int → Int → Bool) (n : Nat) : srtO lt n 0 = marks 0 n := by simp [srtO, sortN]
theorem srtO_one (lt : Int → Int → Bool) (n : Nat) (h : 0 < n) : srtO lt n 1 = marks 0 n := by
  obtain ⟨m, rfl⟩ : ∃ m, n = m + 1 := ⟨n - 1, by omega⟩
  rw [marks_cons]
  simp [srtO, sortN, insAt, posR]
theorem srtO_all (lt : Int → Int → Bool) (n : Nat) : srtO lt n n = sortN lt n := by simp [srtO, marks]
theorem srt_start (lt : Int → Int → Bool) (n i : Nat) (hi : i < n) : srtO lt n i = srt lt n i i := by
  unfold srtO srt insAt
  rw [show n - i = (n - (i + 1)) + 1 by omega, marks_cons]
  have := sortN_len lt i
  rw [List.take_of_length_le (by omega), List.drop_of_length_le (by omega)]
  simp
theorem srt_end (lt : Int → Int → Bool) (n i j : Nat) (hj : posR lt i (sortN lt i) i = j) : srt lt n i j = srtO lt n (i + 1) := by
  unfold srt srtO
  rw [sortN, hj]
  simp
theorem insAt_get (x : Int) (out : List Int) (k t : Nat) (hk : k ≤ out.length) : (insAt x out k)[t]? = if t < k then out[t]? else if t = k then some x else out[t - 1]? := by
  unfold insAt
  by_cases h : t < k
  · rw [if_pos h, List.getElem?_append_left (by simp; omega), List.getElem?_take, if_pos h]
  · rw [if_neg h, List.getElem?_append_right (by simp; omega), List.length_take, Nat.min_eq_left hk]
    by_cases e : t = k
    · subst e; simp
    · rw [if_neg e, show t - k = (t - k - 1) + 1 by omega, List.getElem?_cons_succ, List.getElem?_drop]
      congr 1
      omega
theorem srt_get (lt : Int → Int → Bool) (n i j t : Nat) (hi : i < n) (hj : j ≤ i) : (srt lt n i j)[t]? = if t ≤ i then (if t < j then (sortN lt i)[t]? else if t = j then some (i : Int) else (sortN lt i)[t - 1]?) else (marks ((i : Int) + 1) (n - (i + 1)))[t - (i + 1)]? := by
  have hl := sortN_len lt i
  have hn := insAt_len (i : Int) (sortN lt i) j (by omega)
  unfold srt
  by_cases h : t ≤ i
  · rw [if_pos h, List.getElem?_append_left (by omega), insAt_get _ _ _ _ (by omega)]
  · rw [if_neg h, List.getElem?_append_right (by omega), hn, hl]
theorem srt_at (lt : Int → Int → Bool) (n i j : Nat) (hi : i < n) (hj : j ≤ i) : (srt lt n i j).getD j 0 = (i : Int) := by
  rw [List.getD_eq_getElem?_getD, srt_get lt n i j j hi hj, if_pos hj, if_neg (Nat.lt_irrefl _), if_pos rfl]; rfl
theorem srt_prev (lt : Int → Int → Bool) (n i j : Nat) (hi : i < n) (hj : j + 1 ≤ i) : (srt lt n i (j + 1)).getD j 0 = (sortN lt i).getD j 0 := by
  rw [List.getD_eq_getElem?_getD, srt_get lt n i (j + 1) j hi hj, if_pos (by omega), if_pos (by omega), ← List.getD_eq_getElem?_getD]
theorem srt_swap (lt : Int → Int → Bool) (n i j : Nat) (hi : i < n) (hj : j + 1 ≤ i) : ((srt lt n i (j + 1)).set (j + 1) ((sortN lt i).getD j 0)).set j (i : Int) = srt lt n i j := by
  have hl := sortN_len lt i
  have hs := srt_len lt n i (j + 1) hi hj
  apply List.ext_getElem?
  intro t
  rw [List.getElem?_set, List.getElem?_set, List.length_set, hs, srt_get lt n i j t hi (by omega), srt_get lt n i (j + 1) t hi hj]
  by_cases h1 : j = t
  · subst h1
    rw [if_pos rfl, if_pos (by omega), if_pos (by omega), if_neg (Nat.lt_irrefl _), if_pos rfl]
  · rw [if_neg h1]
    by_cases h2 : j + 1 = t
    · subst h2
      rw [if_pos rfl, if_pos (by omega), if_pos (by omega), if_neg (by omega), if_neg (by omega), Nat.add_sub_cancel, List.getD_eq_getElem?_getD, List.getElem?_eq_getElem (by omega)]
      rfl
    · rw [if_neg h2]
      by_cases h3 : t ≤ i
      · rw [if_pos h3, if_pos h3]
        by_cases h4 : t < j
        · rw [if_pos h4, if_pos (by omega)]
        · rw [if_neg h4, if_neg (by omega), if_neg (by omega), if_neg (by omega)]
      · rw [if_neg h3, if_neg h3]
end Go.Proofs.Ythdbcncdihcggaa
