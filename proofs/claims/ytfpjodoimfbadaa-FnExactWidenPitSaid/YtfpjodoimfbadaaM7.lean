/-
  Contracts: sums over the blocks of a list, in the program and in the model of it.
-/
import Derived.Test.YtfpjodoimfbadaaM6
namespace Go.Proofs.Ytfpjodoimfbadaa
open Go.RowKit
set_option linter.unusedVariables false

/-- The tonnes, and the metal, of the block at place j of a list. -/
def tonF (ts bs : List Int) (j : Nat) : Int := ts.getD (bs.getD j 0).toNat 0
def metF (ts gs bs : List Int) (j : Nat) : Int := metal ts gs (bs.getD j 0).toNat
def sumT (ts bs : List Int) : Int := sumN (tonF ts bs) bs.length
def sumM (ts gs bs : List Int) : Int := sumN (metF ts gs bs) bs.length

def listB (x y z : Int) (ts gs rs bs : List Int) : Bool := moB x y z ts gs rs && risB (x * y * z) bs
theorem list_true {x y z : Int} {ts gs rs bs : List Int} (h : listB x y z ts gs rs bs = true) : moB x y z ts gs rs = true ∧ risB (x * y * z) bs = true := by
  unfold listB at h; simpa using h
theorem list_len {x y z : Int} {ts gs rs bs : List Int} (h : listB x y z ts gs rs bs = true) : bs.length ≤ 120 := by
  obtain ⟨hm, hr⟩ := list_true h
  obtain ⟨_, _, _, _, _, _, _, _, q1, q2⟩ := good_box (mo_true hm).1
  have := ris_len hr q1
  omega
theorem list_at {x y z : Int} {ts gs rs bs : List Int} (h : listB x y z ts gs rs bs = true) {j : Nat} (hj : j < bs.length) : ∃ k : Nat, bs.getD j 0 = (k : Int) ∧ (k : Int) < x * y * z := by
  obtain ⟨hm, hr⟩ := list_true h
  obtain ⟨h1, h2⟩ := ris_box hr hj
  exact ⟨(bs.getD j 0).toNat, by omega, by omega⟩
theorem ton_at {ts bs : List Int} {j k : Nat} (h : bs.getD j 0 = (k : Int)) : tonF ts bs j = ts.getD k 0 := by unfold tonF; rw [h]; rfl
theorem met_at {ts gs bs : List Int} {j k : Nat} (h : bs.getD j 0 = (k : Int)) : metF ts gs bs j = metal ts gs k := by unfold metF; rw [h]; rfl
theorem ton_box {x y z : Int} {ts gs rs bs : List Int} (h : listB x y z ts gs rs bs = true) {j : Nat} (hj : j < bs.length) : 0 ≤ tonF ts bs j ∧ tonF ts bs j ≤ 10000000 := by
  obtain ⟨k, e, hk⟩ := list_at h hj
  obtain ⟨k1, k2, k3, t0, t1, g0, g1, r0, r1, m0, m1⟩ := metal_box (list_true h).1 hk
  rw [ton_at e]; omega
theorem met_box {x y z : Int} {ts gs rs bs : List Int} (h : listB x y z ts gs rs bs = true) {j : Nat} (hj : j < bs.length) : 0 ≤ metF ts gs bs j ∧ metF ts gs bs j ≤ 10000000 := by
  obtain ⟨k, e, hk⟩ := list_at h hj
  obtain ⟨k1, k2, k3, t0, t1, g0, g1, r0, r1, m0, m1⟩ := metal_box (list_true h).1 hk
  rw [met_at e]; exact ⟨m0, m1⟩

end Go.Proofs.Ytfpjodoimfbadaa
