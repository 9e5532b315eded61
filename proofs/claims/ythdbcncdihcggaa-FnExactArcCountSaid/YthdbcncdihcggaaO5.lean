/-
  Turning templates: plain facts of sorted lists of triples.
-/
import Derived.Test.YthdbcncdihcggaaO3
import Derived.Test.YthdbcncdihcggaaT1
import Derived.Test.YthdbcncdihcggaaT2n
namespace Go.Proofs.Ythdbcncdihcggaa
set_option linter.unusedVariables false

/-- The numbers of the triples that a list of places names. -/
def triL (f : Int → Int × Int × Int) (l : List Int) : List Int := l.flatMap fun i => [(f i).1, (f i).2.1, (f i).2.2]
theorem triL_app (f : Int → Int × Int × Int) (a b : List Int) : triL f (a ++ b) = triL f a ++ triL f b := by simp [triL]
theorem triL_len (f : Int → Int × Int × Int) : ∀ l, (triL f l).length = l.length * 3
  | [] => rfl
  | a :: l => by
    have := triL_len f l
    unfold triL at *
    simp only [List.flatMap_cons, List.length_append, List.length_cons, List.length_nil, this]
    omega
theorem triL_at (f : Int → Int × Int × Int) : ∀ (l : List Int) {k : Nat}, k < l.length → (triL f l).getD (k * 3) 0 = (f (l.getD k 0)).1 ∧ (triL f l).getD (k * 3 + 1) 0 = (f (l.getD k 0)).2.1 ∧ (triL f l).getD (k * 3 + 2) 0 = (f (l.getD k 0)).2.2
  | a :: l, 0, _ => by simp [triL]
  | a :: l, k + 1, h => by
    have h' : k < l.length := by simpa using h
    have := triL_at f l h'
    have e : triL f (a :: l) = (f a).1 :: (f a).2.1 :: (f a).2.2 :: triL f l := by simp [triL]
    rw [e, show (k + 1) * 3 = k * 3 + 1 + 1 + 1 by omega, show k * 3 + 1 + 1 + 1 + 1 = (k * 3 + 1) + 1 + 1 + 1 by omega, show k * 3 + 1 + 1 + 1 + 2 = (k * 3 + 2) + 1 + 1 + 1 by omega]
    simp only [List.getD_cons_succ]
    exact this
theorem triL_take (f : Int → Int × Int × Int) : ∀ (l : List Int) (k : Nat), (triL f l).take (k * 3) = triL f (l.take k)
  | [], k => by simp [triL]
  | a :: l, 0 => by simp [triL]
  | a :: l, k + 1 => by
    have e : triL f (a :: l) = (f a).1 :: (f a).2.1 :: (f a).2.2 :: triL f l := by simp [triL]
    have e2 : triL f (a :: l.take k) = (f a).1 :: (f a).2.1 :: (f a).2.2 :: triL f (l.take k) := by simp [triL]
    rw [List.take_succ_cons, e, e2, show (k + 1) * 3 = k * 3 + 1 + 1 + 1 by omega, List.take_succ_cons, List.take_succ_cons, List.take_succ_cons, triL_take f l k]
theorem triL_drop (f : Int → Int × Int × Int) : ∀ (l : List Int) (k : Nat), (triL f l).drop (k * 3) = triL f (l.drop k)
  | [], k => by simp [triL]
  | a :: l, 0 => by simp [triL]
  | a :: l, k + 1 => by
    have e : triL f (a :: l) = (f a).1 :: (f a).2.1 :: (f a).2.2 :: triL f l := by simp [triL]
    rw [List.drop_succ_cons, e, show (k + 1) * 3 = k * 3 + 1 + 1 + 1 by omega, List.drop_succ_cons, List.drop_succ_cons, List.drop_succ_cons, triL_drop f l k]
theorem triL_set (f : Int → Int × Int × Int) (i : Int) : ∀ (l : List Int) {j : Nat}, j < l.length → (((triL f l).set (j * 3) (f i).1).set (j * 3 + 1) (f i).2.1).set (j * 3 + 2) (f i).2.2 = triL f (l.set j i)
  | a :: l, 0, _ => by simp [triL]
  | a :: l, j + 1, h => by
    have h' : j < l.length := by simpa using h
    have := triL_set f i l h'
    have e : triL f (a :: l) = (f a).1 :: (f a).2.1 :: (f a).2.2 :: triL f l := by simp [triL]
    have e2 : triL f (a :: l.set j i) = (f a).1 :: (f a).2.1 :: (f a).2.2 :: triL f (l.set j i) := by simp [triL]
    rw [List.set_cons_succ, e, e2, show (j + 1) * 3 = j * 3 + 1 + 1 + 1 by omega, show j * 3 + 1 + 1 + 1 + 1 = (j * 3 + 1) + 1 + 1 + 1 by omega, show j * 3 + 1 + 1 + 1 + 2 = (j * 3 + 2) + 1 + 1 + 1 by omega]
    simp only [List.set_cons_succ]
    rw [this]

/-- A turned offset. -/
def tuF (xs : List Int) (i : Int) : Int × Int × Int := (- xs.getD (i.toNat * 3 + 1) 0, xs.getD (i.toNat * 3) 0, xs.getD (i.toNat * 3 + 2) 0)
theorem tuF_nat (xs : List Int) (k : Nat) : tuF xs k = (- xs.getD (k * 3 + 1) 0, xs.getD (k * 3) 0, xs.getD (k * 3 + 2) 0) := rfl
/-- What comparing two of them gives. -/
def tuC (xs : List Int) (a b : Int) : Int := cmpO (tuF xs a).1 (tuF xs a).2.1 (tuF xs a).2.2 (tuF xs b).1 (tuF xs b).2.1 (tuF xs b).2.2
theorem tuC_nat (xs : List Int) (a b : Nat) : tuC xs a b = cmpO (- xs.getD (a * 3 + 1) 0) (xs.getD (a * 3) 0) (xs.getD (a * 3 + 2) 0) (- xs.getD (b * 3 + 1) 0) (xs.getD (b * 3) 0) (xs.getD (b * 3 + 2) 0) := rfl
def tuN (n : Nat) (xs : List Int) : Nat := if temB n xs = true then n else 0
def tuL (n : Nat) (xs : List Int) : List Int := if temB n xs = true then triL (tuF xs) (sortN (fun a b => decide (tuC xs a b < 0)) n) else []
theorem tuN_le (n : Nat) (xs : List Int) : tuN n xs ≤ 1000000 := by
  unfold tuN
  split
  · rename_i h; have := tem_true h; omega
  · omega
theorem tu_no {n : Nat} {xs : List Int} (h : temB n xs = false) : tuN n xs = 0 ∧ tuL n xs = [] := by
  unfold tuN tuL; rw [h]; simp
theorem tu_yes {n : Nat} {xs : List Int} (h : temB n xs = true) : tuN n xs = n ∧ tuL n xs = triL (tuF xs) (sortN (fun a b => decide (tuC xs a b < 0)) n) := by
  unfold tuN tuL; rw [h]; simp
theorem tem_off {n : Nat} {xs : List Int} (h : temB n xs = true) {k : Nat} (hk : k < n) : -2 ≤ xs.getD (k * 3) 0 ∧ xs.getD (k * 3) 0 ≤ 2 ∧ -2 ≤ xs.getD (k * 3 + 1) 0 ∧ xs.getD (k * 3 + 1) 0 ≤ 2 ∧ 1 ≤ xs.getD (k * 3 + 2) 0 ∧ xs.getD (k * 3 + 2) 0 ≤ 2 := by
  have := temAll_at (tem_true h).2.2 hk
  unfold okT at this
  simp only [Bool.and_eq_true] at this
  exact off_true this.1
end Go.Proofs.Ythdbcncdihcggaa
