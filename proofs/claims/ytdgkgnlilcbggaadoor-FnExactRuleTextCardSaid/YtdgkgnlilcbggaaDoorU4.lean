/-
  The stack's parts and what each part takes, as lists of ints; depths part by part: plain facts.
-/
import Derived.Test.YtdgkgnlilcbggaaDoorU3
namespace Go.Proofs.YtdgkgnlilcbggaaDoor
set_option linter.unusedVariables false

def opI (ks : Nat → Int) (i : Nat) : List Int := (stk ks i).reverse.map fun (x : Nat) => (x : Int)
def kidI (ks : Nat → Int) (i : Nat) : List Int := (kid ks i).map fun (x : Nat) => (x : Int)
def kidsTo (ks : Nat → Int) (k : Nat) : List (List Int) := (List.range k).map (kidI ks)
theorem opI_len (ks : Nat → Int) (i : Nat) : (opI ks i).length = (stk ks i).length := by simp [opI]
theorem opI_succ {ks : Nat → Int} {i : Nat} : opI ks (i + 1) = (opI ks i).take ((stk ks i).length - ndA ks i) ++ [(i : Int)] := by
  unfold opI
  rw [stk, List.reverse_cons, List.map_append, ← List.map_take, List.take_reverse]
  congr 3
  by_cases h : ndA ks i ≤ (stk ks i).length
  · rw [show (stk ks i).length - ((stk ks i).length - ndA ks i) = ndA ks i by omega]
  · rw [List.drop_of_length_le (by omega), List.drop_of_length_le (by omega)]
theorem kidI_drop {ks : Nat → Int} {i : Nat} (h : ndA ks i ≤ (stk ks i).length) : kidI ks i = (opI ks i).drop ((stk ks i).length - ndA ks i) := by
  unfold opI kidI kid
  rw [← List.map_drop, List.drop_reverse, show (stk ks i).length - ((stk ks i).length - ndA ks i) = ndA ks i by omega]
theorem kidsTo_succ (ks : Nat → Int) (k : Nat) : kidsTo ks k ++ [kidI ks k] = kidsTo ks (k + 1) := by
  unfold kidsTo
  rw [List.range_succ, List.map_append]; rfl
theorem kidsTo_len (ks : Nat → Int) (k : Nat) : (kidsTo ks k).length = k := by simp [kidsTo]
theorem kidsTo_at (ks : Nat → Int) {k i : Nat} (h : i < k) : (kidsTo ks k).getD i [] = kidI ks i := by
  simp [kidsTo, List.getD_eq_getElem?_getD, h]
theorem stk_lt (ks : Nat → Int) : ∀ (i : Nat) {x : Nat}, x ∈ stk ks i → x < i
  | i + 1, x, h => by
    rw [stk, List.mem_cons] at h
    rcases h with rfl | h
    · omega
    · have := stk_lt ks i (List.mem_of_mem_drop h)
      omega
theorem stk_len (ks : Nat → Int) : ∀ i, (stk ks i).length ≤ i
  | 0 => Nat.le_refl _
  | i + 1 => by have := stk_len ks i; rw [stk, List.length_cons, List.length_drop]; omega
theorem kid_lt (ks : Nat → Int) {i x : Nat} (h : x ∈ kid ks i) : x < i := by
  unfold kid at h
  rw [List.mem_reverse] at h
  exact stk_lt ks i (List.mem_of_mem_take h)
theorem kid_len (ks : Nat → Int) (i : Nat) : (kid ks i).length ≤ 4 := by
  unfold kid
  rw [List.length_reverse, List.length_take]
  rcases ndK_cases (ks i) with h | h | h <;> rw [show ndA ks i = _ from h] <;> omega
/-- The greatest depth of the first j that part i takes. -/
def depF (ks : Nat → Int) (i j : Nat) : Int := ((kid ks i).take j).foldl (fun d k => max d ((dps ks i).getD k 0)) 0
theorem depF_zero (ks : Nat → Int) (i : Nat) : depF ks i 0 = 0 := by simp [depF]
theorem kid_at {ks : Nat → Int} {i j : Nat} (h : j < (kidI ks i).length) : ∃ x : Nat, x < i ∧ (kidI ks i).getD j 0 = (x : Int) ∧ depF ks i (j + 1) = max (depF ks i j) ((dps ks i).getD x 0) := by
  have h' : j < (kid ks i).length := by simpa [kidI] using h
  refine ⟨(kid ks i)[j], kid_lt ks (List.getElem_mem h'), by simp [kidI, h'], ?_⟩
  unfold depF
  rw [List.take_succ_eq_append_getElem h', List.foldl_append]
  rfl
theorem depF_all (ks : Nat → Int) (i : Nat) : dps ks i ++ [depF ks i (kidI ks i).length + 1] = dps ks (i + 1) := by
  rw [dps]
  congr 3
  unfold depF
  rw [show (kidI ks i).length = (kid ks i).length by simp [kidI], List.take_length]
theorem dps_box (ks : Nat → Int) : ∀ (i : Nat) {e : Nat}, e < i → 0 ≤ (dps ks i).getD e 0 ∧ (dps ks i).getD e 0 ≤ (i : Int)
  | i + 1, e, h => by
    have hl := dps_len ks i
    have fold : ∀ (l : List Nat) (d : Int), (∀ x ∈ l, x < i) → 0 ≤ d → d ≤ (i : Int) → 0 ≤ l.foldl (fun d k => max d ((dps ks i).getD k 0)) d ∧ l.foldl (fun d k => max d ((dps ks i).getD k 0)) d ≤ (i : Int) := fun l => by
      induction l with
      | nil => intro d _ h0 h1; exact ⟨h0, h1⟩
      | cons x l ih =>
        intro d hx h0 h1
        have b := dps_box ks i (hx x (by simp))
        exact ih (max d ((dps ks i).getD x 0)) (fun y hy => hx y (by simp [hy])) (by omega) (by omega)
    by_cases he : e = i
    · rw [he, dps_last]
      have := fold (kid ks i) 0 (fun x hx => kid_lt ks hx) (Int.le_refl _) (by omega)
      omega
    · have := dps_box ks i (show e < i by omega)
      rw [dps_get ks (i + 1) h, ← dps_get ks i (show e < i by omega)]
      omega
theorem depF_box (ks : Nat → Int) (i : Nat) : ∀ j, j ≤ (kidI ks i).length → 0 ≤ depF ks i j ∧ depF ks i j ≤ (i : Int)
  | 0, _ => by rw [depF_zero]; omega
  | j + 1, h => by
    have ih := depF_box ks i j (by omega)
    obtain ⟨x, hx, _, e⟩ := kid_at (show j < (kidI ks i).length by omega)
    have := dps_box ks i hx
    rw [e]; omega
end Go.Proofs.YtdgkgnlilcbggaaDoor
