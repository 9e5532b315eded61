/-
  How many pieces of an order suffice: plain facts.
-/
import Derived.Test.YthlclieifcbkjabU6
import Derived.Test.YthlclieifcbkjabT1
namespace Go.Proofs.Ythlclieifcbkjab
set_option linter.unusedVariables false

theorem insAt_perm (x : Int) (out : List Int) (k : Nat) : (insAt x out k).Perm (x :: out) := by
  unfold insAt
  have : (x :: (out.take k ++ out.drop k)).Perm (x :: out) := by rw [List.take_append_drop]
  exact List.perm_middle.trans this
theorem sortN_mem (lt : Int → Int → Bool) : ∀ (i : Nat) {y : Int}, y ∈ sortN lt i → ∃ b : Nat, y = (b : Int) ∧ b < i
  | i + 1, y, h => by
    rw [sortN] at h
    have := (insAt_perm _ _ _).mem_iff.1 h
    rw [List.mem_cons] at this
    rcases this with rfl | this
    · exact ⟨i, rfl, by omega⟩
    · obtain ⟨b, e, hb⟩ := sortN_mem lt i this
      exact ⟨b, e, by omega⟩
theorem sortN_nodup (lt : Int → Int → Bool) : ∀ i, (sortN lt i).Nodup
  | 0 => List.nodup_nil
  | i + 1 => by
    rw [sortN, (insAt_perm _ _ _).nodup_iff, List.nodup_cons]
    refine ⟨fun h => ?_, sortN_nodup lt i⟩
    obtain ⟨b, e, hb⟩ := sortN_mem lt i h
    omega
/-- What is still wanted behind the first k of an order. -/
def lef (xs S : List Int) (a : Int) : Nat → Int
  | 0 => a
  | k + 1 => lef xs S a k - xs.getD ((S.getD k 0).toNat * 3) 0
def TakeIs (f : Nat → Int) (n m : Nat) : Prop := m ≤ n ∧ (∀ j, j < m → 0 < f j) ∧ (m = n ∨ f m ≤ 0)
theorem takeIs_ex (f : Nat → Int) : ∀ n, ∃ m, TakeIs f n m
  | 0 => ⟨0, Nat.le_refl _, fun j hj => by omega, .inl rfl⟩
  | n + 1 => by
    obtain ⟨m, h0, h1, h2⟩ := takeIs_ex f n
    rcases h2 with rfl | h2
    · by_cases hf : f m ≤ 0
      · exact ⟨m, by omega, h1, .inr hf⟩
      · refine ⟨m + 1, Nat.le_refl _, fun j hj => ?_, .inl rfl⟩
        by_cases e : j = m
        · rw [e]; omega
        · exact h1 j (by omega)
    · exact ⟨m, by omega, h1, .inr h2⟩
noncomputable def takN (f : Nat → Int) (n : Nat) : Nat := (takeIs_ex f n).choose
theorem takN_is (f : Nat → Int) (n : Nat) : TakeIs f n (takN f n) := (takeIs_ex f n).choose_spec
theorem lef_box (xs S : List Int) (a : Int) : ∀ k, (∀ j, j < k → 0 ≤ xs.getD ((S.getD j 0).toNat * 3) 0 ∧ xs.getD ((S.getD j 0).toNat * 3) 0 ≤ 10000) → a - 10000 * (k : Int) ≤ lef xs S a k ∧ lef xs S a k ≤ a
  | 0, _ => by simp [lef]
  | k + 1, h => by
    have ih := lef_box xs S a k (fun j hj => h j (by omega))
    have := h k (by omega)
    rw [lef]
    omega
theorem take_snoc {S : List Int} {k : Nat} (h : k < S.length) : S.take (k + 1) = S.take k ++ [S.getD k 0] := by
  rw [List.take_succ_eq_append_getElem h]
  simp [h]
theorem take_nodup {S : List Int} (h : S.Nodup) (k : Nat) : (S.take k).Nodup := h.sublist (List.take_sublist _ _)
end Go.Proofs.Ythlclieifcbkjab
