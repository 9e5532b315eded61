/-
  A number put into a rising list: plain facts.
-/
import Derived.Test.YthlclieifcbkjabC6
namespace Go.Proofs.Ythlclieifcbkjab
set_option linter.unusedVariables false

/-- Where x comes in a rising list; the list with x. -/
def posL (ys : List Int) (x : Int) : Nat := (ys.takeWhile fun y => decide (y < x)).length
def putI (ys : List Int) (x : Int) : List Int := if posL ys x < ys.length ∧ ys.getD (posL ys x) 0 = x then ys else (ys.take (posL ys x) ++ [x]) ++ ys.drop (posL ys x)
theorem posL_le : ∀ (ys : List Int) (x : Int), posL ys x ≤ ys.length
  | [], x => Nat.le_refl _
  | y :: ys, x => by
    have := posL_le ys x
    unfold posL at *
    rw [List.takeWhile_cons]
    split <;> simp <;> omega
theorem posL_lt : ∀ (ys : List Int) (x : Int) {k : Nat}, k < posL ys x → ys.getD k 0 < x
  | [], x, k, h => by simp [posL] at h
  | y :: ys, x, k, h => by
    unfold posL at h
    rw [List.takeWhile_cons] at h
    split at h
    · rename_i hy
      cases k with
      | zero => simpa using hy
      | succ k =>
        have := posL_lt ys x (k := k) (by unfold posL; simp at h; omega)
        simpa using this
    · simp at h
theorem posL_at : ∀ (ys : List Int) (x : Int), posL ys x < ys.length → ¬ ys.getD (posL ys x) 0 < x
  | [], x, h => by simp [posL] at h
  | y :: ys, x, h => by
    unfold posL at h ⊢
    rw [List.takeWhile_cons] at h ⊢
    split at h
    · rename_i hy
      rw [if_pos hy]
      have := posL_at ys x (by unfold posL; simp at h; omega)
      unfold posL at this
      simpa using this
    · rename_i hy
      rw [if_neg hy]
      simpa using hy
theorem putI_perm {ys : List Int} {x : Int} (h : ∀ y ∈ ys, y ≠ x) : (putI ys x).Perm (x :: ys) := by
  unfold putI
  rw [if_neg (fun ⟨h1, h2⟩ => h _ (by rw [List.getD_eq_getElem?_getD, List.getElem?_eq_getElem h1]; exact List.getElem_mem h1) h2)]
  have : (x :: (ys.take (posL ys x) ++ ys.drop (posL ys x))).Perm (x :: ys) := by rw [List.take_append_drop]
  have h2 : ((ys.take (posL ys x) ++ [x]) ++ ys.drop (posL ys x)).Perm (x :: (ys.take (posL ys x) ++ ys.drop (posL ys x))) := by
    rw [List.append_assoc]
    exact List.perm_middle
  exact h2.trans this
theorem takeWhile_len (p : Int → Bool) (ys : List Int) : ys.take (ys.takeWhile p).length = ys.takeWhile p := by
  induction ys with
  | nil => rfl
  | cons y ys ih =>
    rw [List.takeWhile_cons]
    split
    · simp [ih]
    · rfl
theorem putI_rising {ys : List Int} {x : Int} (hs : ys.Pairwise (· ≤ ·)) : (putI ys x).Pairwise (· ≤ ·) := by
  unfold putI
  split
  · exact hs
  · have ht : ∀ y ∈ ys.take (posL ys x), y ≤ x := fun y hy => by
      obtain ⟨k, hk, e⟩ := List.getElem_of_mem hy
      rw [List.length_take] at hk
      have := posL_lt ys x (k := k) (by omega)
      rw [List.getElem_take] at e
      rw [List.getD_eq_getElem?_getD, List.getElem?_eq_getElem (by omega)] at this
      simp at this
      omega
    have hd : ∀ y ∈ ys.drop (posL ys x), x ≤ y := fun y hy => by
      obtain ⟨k, hk, e⟩ := List.getElem_of_mem hy
      rw [List.length_drop] at hk
      rw [List.getElem_drop] at e
      have h0 := posL_at ys x (by omega)
      rw [List.getD_eq_getElem?_getD, List.getElem?_eq_getElem (by omega)] at h0
      simp at h0
      rw [← e]
      by_cases hk0 : k = 0
      · subst hk0; simpa using h0
      · have := (List.pairwise_iff_getElem.1 hs) (posL ys x) (posL ys x + k) (by omega) (by omega) (by omega)
        omega
    rw [List.pairwise_append, List.pairwise_append]
    refine ⟨⟨hs.sublist (List.take_sublist _ _), List.pairwise_singleton _ _, fun a ha b hb => ?_⟩, hs.sublist (List.drop_sublist _ _), fun a ha b hb => ?_⟩
    · simp at hb; rw [hb]; exact ht a ha
    · rw [List.mem_append] at ha
      rcases ha with ha | ha
      · exact Int.le_trans (ht a ha) (hd b hb)
      · simp at ha; rw [ha]; exact hd b hb
/-- All numbers of a list put one after the other. -/
def putA (l : List Int) : List Int := l.foldl putI []
theorem putA_snoc (l : List Int) (x : Int) : putA (l ++ [x]) = putI (putA l) x := by unfold putA; rw [List.foldl_append]; rfl
theorem putA_fold : ∀ (l ys : List Int), (ys ++ l).Nodup → ys.Pairwise (· ≤ ·) → (l.foldl putI ys).Pairwise (· ≤ ·) ∧ (l.foldl putI ys).Perm (ys ++ l)
  | [], ys, _, hs => ⟨hs, by simp⟩
  | x :: l, ys, hn, hs => by
    have hx : ∀ y ∈ ys, y ≠ x := fun y hy e => by
      rw [List.nodup_append] at hn
      exact hn.2.2 y hy x (by simp) e
    have hp := putI_perm hx
    have hperm : (putI ys x ++ l).Perm (ys ++ x :: l) := (hp.append_right l).trans (by simpa using (List.perm_middle (l₁ := ys) (l₂ := l) (a := x)).symm)
    obtain ⟨h1, h2⟩ := putA_fold l (putI ys x) (hperm.nodup_iff.2 hn) (putI_rising hs)
    exact ⟨h1, h2.trans hperm⟩
theorem putA_sort {l : List Int} (hn : l.Nodup) : putA l = l.mergeSort fun x y => decide (x ≤ y) := by
  obtain ⟨h1, h2⟩ := putA_fold l [] (by simpa using hn) List.Pairwise.nil
  have m1 : (l.mergeSort fun x y => decide (x ≤ y)).Pairwise fun a b => a ≤ b := by
    have := List.pairwise_mergeSort (le := fun (x y : Int) => decide (x ≤ y)) (fun a b c hab hbc => by simp at *; omega) (fun a b => by simp; omega) l
    exact this.imp (fun h => by simpa using h)
  have m2 := List.mergeSort_perm l (fun x y => decide (x ≤ y))
  exact List.Perm.eq_of_pairwise (fun a b _ _ hab hba => Int.le_antisymm hab hba) h1 m1 ((show (l.foldl putI []).Perm l by simpa using h2).trans m2.symm)
end Go.Proofs.Ythlclieifcbkjab
