/-
  Joined pieces: plain facts.
-/
import Derived.Test.YtmimilchldjkbaaDoorQ7
namespace Go.Proofs.YtmimilchldjkbaaDoor
set_option linter.unusedVariables false

/-- The sum of one number of the first k pieces. -/
def suF (xs : List Int) (d : Nat) : Nat → Int
  | 0 => 0
  | k + 1 => suF xs d k + xs.getD (k * 3 + d) 0
/-- The tonnes of each rock in the first k pieces. -/
def rkT (xs : List Int) : Nat → List Int
  | 0 => [0, 0, 0, 0, 0]
  | k + 1 => (rkT xs k).set (xs.getD (k * 3 + 2) 0).toNat ((rkT xs k).getD (xs.getD (k * 3 + 2) 0).toNat 0 + xs.getD (k * 3) 0)
theorem rkT_len (xs : List Int) : ∀ k, (rkT xs k).length = 5
  | 0 => rfl
  | k + 1 => by rw [rkT, List.length_set]; exact rkT_len xs k
theorem PieTo.less {xs : List Int} {k j : Nat} (h : PieTo xs k) (hj : j ≤ k) : PieTo xs j := fun q hq => h q (by omega)
theorem rkT_box {xs : List Int} : ∀ k, PieTo xs k → ∀ r, 0 ≤ (rkT xs k).getD r 0 ∧ (rkT xs k).getD r 0 ≤ 10000 * (k : Int)
  | 0, _, r => by
    rw [rkT]
    match r with
    | 0 | 1 | 2 | 3 | 4 => simp
    | r + 5 => simp
  | k + 1, h, r => by
    have ih := rkT_box k (h.less (by omega))
    obtain ⟨t0, t1, _⟩ := pie_true (h k (by omega))
    rw [rkT, List.getD_eq_getElem?_getD, List.getElem?_set]
    have hr := ih r
    have hq := ih (xs.getD (k * 3 + 2) 0).toNat
    have e : (10000 * ((k + 1 : Nat) : Int)) = 10000 * (k : Int) + 10000 := by omega
    rw [e]
    split
    · split
      · simp only [Option.getD_some]
        omega
      · simp
        omega
    · rw [← List.getD_eq_getElem?_getD]
      omega
theorem suF_box {xs : List Int} : ∀ k, PieTo xs k → 0 ≤ suF xs 0 k ∧ suF xs 0 k ≤ 10000 * (k : Int) ∧ 0 ≤ suF xs 1 k ∧ suF xs 1 k ≤ 1000 * suF xs 0 k
  | 0, _ => by simp [suF]
  | k + 1, h => by
    have ih := suF_box k (h.less (by omega))
    obtain ⟨t0, t1, m0, m1, _⟩ := pie_true (h k (by omega))
    have e : (10000 * ((k + 1 : Nat) : Int)) = 10000 * (k : Int) + 10000 := by omega
    rw [suF, suF, e]
    simp only [Nat.add_zero]
    omega
/-- The place of the greatest of the first j numbers, the first one of several. -/
def bestR (T : List Int) : Nat → Nat
  | 0 => 0
  | j + 1 => if T.getD (bestR T j) 0 < T.getD j 0 then j else bestR T j
theorem bestR_lt (T : List Int) : ∀ j, bestR T j ≤ j - 1
  | 0 => Nat.le_refl _
  | j + 1 => by
    have := bestR_lt T j
    rw [bestR]
    split <;> omega
def joB (n : Nat) (xs : List Int) : Bool := piesB n xs && decide (suF xs 0 n ≤ 10000)
def joT (n : Nat) (xs : List Int) : Int := if joB n xs then suF xs 0 n else 0
def joM (n : Nat) (xs : List Int) : Int := if joB n xs then suF xs 1 n else 0
def joR (n : Nat) (xs : List Int) : Int := if joB n xs then (bestR (rkT xs n) 5 : Int) else 0
theorem jo_no {n : Nat} {xs : List Int} (h : joB n xs = false) : joT n xs = 0 ∧ joM n xs = 0 ∧ joR n xs = 0 := ⟨by unfold joT; rw [h]; rfl, by unfold joM; rw [h]; rfl, by unfold joR; rw [h]; rfl⟩
theorem jo_yes {n : Nat} {xs : List Int} (h : joB n xs = true) : joT n xs = suF xs 0 n ∧ joM n xs = suF xs 1 n ∧ joR n xs = (bestR (rkT xs n) 5 : Int) := ⟨by unfold joT; rw [h]; rfl, by unfold joM; rw [h]; rfl, by unfold joR; rw [h]; rfl⟩
end Go.Proofs.YtmimilchldjkbaaDoor
