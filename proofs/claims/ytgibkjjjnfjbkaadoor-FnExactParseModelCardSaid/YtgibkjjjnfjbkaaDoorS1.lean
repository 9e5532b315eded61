/-
  Rising lists of block numbers, and sums over lists: plain facts.
-/
import Derived.WalkKit
namespace Go.Proofs.YtgibkjjjnfjbkaaDoor

/-- What stands before place j of a list: -1 before the first. -/
def prevOf (xs : List Int) : Nat → Int
  | 0 => -1
  | j + 1 => xs.getD j 0
def risB (n : Int) (xs : List Int) : Bool := (List.range xs.length).all fun j => decide (prevOf xs j < xs.getD j 0 ∧ xs.getD j 0 < n)
theorem ris_false {n : Int} {xs : List Int} {k : Nat} (hk : k < xs.length) (h : ¬ (prevOf xs k < xs.getD k 0 ∧ xs.getD k 0 < n)) : risB n xs = false := by
  unfold risB
  rw [List.all_eq_false]
  exact ⟨k, List.mem_range.2 hk, by simpa using h⟩
theorem ris_true {n : Int} {xs : List Int} (h : ∀ k : Nat, k < xs.length → prevOf xs k < xs.getD k 0 ∧ xs.getD k 0 < n) : risB n xs = true := by
  unfold risB
  rw [List.all_eq_true]
  intro j hj
  simpa using h j (List.mem_range.1 hj)
theorem ris_at {n : Int} {xs : List Int} (h : risB n xs = true) {k : Nat} (hk : k < xs.length) : prevOf xs k < xs.getD k 0 ∧ xs.getD k 0 < n := by
  unfold risB at h
  rw [List.all_eq_true] at h
  simpa using h k (List.mem_range.2 hk)
theorem ris_ge {n : Int} {xs : List Int} (h : risB n xs = true) : ∀ {k : Nat}, k < xs.length → (k : Int) ≤ xs.getD k 0
  | 0, hk => by have := (ris_at h hk).1; simp only [prevOf] at this; omega
  | k + 1, hk => by
    have h1 := (ris_at h hk).1
    have h2 := ris_ge h (k := k) (by omega)
    simp only [prevOf] at h1
    omega
theorem ris_box {n : Int} {xs : List Int} (h : risB n xs = true) {k : Nat} (hk : k < xs.length) : 0 ≤ xs.getD k 0 ∧ xs.getD k 0 < n := by
  have h1 := ris_ge h hk
  have h2 := (ris_at h hk).2
  omega
theorem ris_len {n : Int} {xs : List Int} (h : risB n xs = true) (hn : 0 ≤ n) : (xs.length : Int) ≤ n := by
  rcases Nat.eq_zero_or_pos xs.length with h0 | h0
  · omega
  · have h1 := ris_ge h (k := xs.length - 1) (by omega)
    have h2 := (ris_at h (k := xs.length - 1) (by omega)).2
    omega

/-- The sum of the first k values of f. -/
def sumN (f : Nat → Int) : Nat → Int
  | 0 => 0
  | k + 1 => sumN f k + f k
theorem sumN_zero (f : Nat → Int) : sumN f 0 = 0 := rfl
theorem sumN_succ (f : Nat → Int) (k : Nat) : sumN f (k + 1) = sumN f k + f k := rfl
theorem sumN_box {f : Nat → Int} {M : Int} {n : Nat} (h : ∀ k : Nat, k < n → 0 ≤ f k ∧ f k ≤ M) (hM : 0 ≤ M) : ∀ k : Nat, k ≤ n → 0 ≤ sumN f k ∧ sumN f k ≤ M * k
  | 0, _ => by simp [sumN]
  | k + 1, hk => by
    have h1 := sumN_box h hM k (by omega)
    have h2 := h k (by omega)
    rw [sumN_succ]
    have e : M * ((k + 1 : Nat) : Int) = M * k + M := by rw [Int.natCast_add, Int.mul_add]; simp
    omega
theorem sumN_congr {f g : Nat → Int} : ∀ {n : Nat}, (∀ k : Nat, k < n → f k = g k) → sumN f n = sumN g n
  | 0, _ => rfl
  | n + 1, h => by rw [sumN_succ, sumN_succ, sumN_congr fun k hk => h k (by omega), h n (by omega)]
end Go.Proofs.YtgibkjjjnfjbkaaDoor
