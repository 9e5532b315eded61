/-
  Contracts: valid arcs and values, and cuts of pits, in the program and in the model.
-/
import Derived.Test.YtdgkgnlilcbggaaTW
import Derived.Test.YtdgkgnlilcbggaaTN
namespace Go.Proofs.Ytdgkgnlilcbggaa
open Go.RowKit
set_option linter.unusedVariables false

theorem getD_left (xs : List Int) (a : Int) {k : Nat} (h : k < xs.length) : (xs ++ [a]).getD k 0 = xs.getD k 0 := by
  simp [List.getD_eq_getElem?_getD, List.getElem?_append_left h]
theorem getD_last (xs : List Int) (a : Int) : (xs ++ [a]).getD xs.length 0 = a := by
  simp [List.getD_eq_getElem?_getD]
theorem prev_left (xs : List Int) (a : Int) : ∀ {k : Nat}, k ≤ xs.length → prevOf (xs ++ [a]) k = prevOf xs k
  | 0, _ => rfl
  | k + 1, h => by simp only [prevOf]; exact getD_left xs a (by omega)
theorem sel_ris (p : Int → Bool) : ∀ n : Nat, RisTo n (sel p n) (sel p n).length
  | 0 => fun j hj => by simp [sel] at hj
  | n + 1 => by
    have ih := sel_ris p n
    cases hp : p n
    · rw [sel_miss hp]
      intro j hj
      have := ih j hj
      omega
    · rw [sel_hit hp]
      intro j hj
      rw [List.length_append, List.length_singleton] at hj
      by_cases h : j < (sel p n).length
      · rw [prev_left _ _ (by omega), getD_left _ _ h]
        have := ih j h
        omega
      · obtain rfl : j = (sel p n).length := by omega
        rw [prev_left _ _ (Nat.le_refl _), getD_last]
        refine ⟨?_, by omega⟩
        cases hl : (sel p n).length with
        | zero => simp only [prevOf]; omega
        | succ m => simp only [prevOf]; exact (ih m (by omega)).2
theorem sel_risB (p : Int → Bool) {n : Nat} {N : Int} (h : N = n) : risB N (sel p n) = true := by subst h; exact ris_true (sel_ris p n)
/-- Arcs and as many values. -/
def pgB (xss : List (List Int)) (vs : List Int) : Bool := arcB xss && valB xss.length vs
theorem pg_true {xss : List (List Int)} {vs : List Int} (h : pgB xss vs = true) : arcB xss = true ∧ valB xss.length vs = true := by
  unfold pgB at h
  rwa [Bool.and_eq_true] at h
def ptB (xss : List (List Int)) (vs bs : List Int) : Bool := pgB xss vs && (risB xss.length bs && closB xss bs)

theorem c_paGood (xss : List (List Int)) (vs : List Int) (v u : Value) (w : World) (hs : ShortL xss) (hl : vs.length ≤ 4000000) (h : SeenL w v xss) (hu : Seen w u vs) :
    Calls Try.prog 15 #[v, u] w fun e w' => e = .returned (.bool (pgB xss vs)) ∧ w = w' := by
  have C0 := Lib.hid (c_clArcs xss v w hs h)
  have C1 := Lib.hid (c_vaGood vs u xss.length w hl hu)
  obtain ⟨A, c, rfl, hm⟩ := h.shape
  obtain ⟨A2, c2, rfl⟩ := hu.shape
  unfold pgB
  clear h hu hs hl
  generalize valB xss.length vs = b at *
  cases ha : arcB xss
  · rw [ha] at C0
    clear ha C1
    go_enter Try.func15, Try.ntmps15
    go_wp2_with fail
    refine C0.out.mono ?_
    rintro e w1 ⟨rfl, rfl⟩
    go_wp2
    go_ret
    exact ⟨rfl, rfl⟩
  · rw [ha] at C0
    clear ha
    go_enter Try.func15, Try.ntmps15
    go_wp2_with fail
    refine C0.out.mono ?_
    rintro e w1 ⟨rfl, rfl⟩
    go_wp2_with fail
    refine C1.out.mono ?_
    rintro e w1 ⟨rfl, rfl⟩
    go_wp2
    go_ret
    exact ⟨by simp, rfl⟩

theorem c_areArcsAndValues (xss : List (List Int)) (vs : List Int) (v u : Value) (w : World) (hs : ShortL xss) (hl : vs.length ≤ 4000000) (h : SeenL w v xss) (hu : Seen w u vs) :
    Calls Try.prog 40 #[v, u] w fun e w' => e = .returned (.bool (pgB xss vs)) ∧ w = w' := by
  have C0 := Lib.hid (c_AreArcs xss v w hs h)
  have C1 := Lib.hid (c_AreValues vs u xss.length w hl hu)
  obtain ⟨A, c, rfl, hm⟩ := h.shape
  obtain ⟨A2, c2, rfl⟩ := hu.shape
  unfold pgB
  clear h hu hs hl
  generalize valB xss.length vs = b at *
  cases ha : arcB xss
  · rw [ha] at C0
    clear ha C1
    go_enter Try.func40, Try.ntmps40
    go_wp2_with fail
    refine C0.out.mono ?_
    rintro e w1 ⟨rfl, rfl⟩
    go_wp2
    go_ret
    exact ⟨rfl, rfl⟩
  · rw [ha] at C0
    clear ha
    go_enter Try.func40, Try.ntmps40
    go_wp2_with fail
    refine C0.out.mono ?_
    rintro e w1 ⟨rfl, rfl⟩
    go_wp2_with fail
    refine C1.out.mono ?_
    rintro e w1 ⟨rfl, rfl⟩
    go_wp2
    go_ret
    exact ⟨by simp, rfl⟩

end Go.Proofs.Ytdgkgnlilcbggaa
