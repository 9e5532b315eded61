/-
  Contracts: the metal of a block, and whether a model has a block, in the program and in the model of it.
-/
import Derived.Test.YtgibkjjjnfjbkaaDoorM4
import Derived.Test.YtgibkjjjnfjbkaaDoorC4
namespace Go.Proofs.YtgibkjjjnfjbkaaDoor
open Go.RowKit
set_option linter.unusedVariables false

/-- The cell of a number of a list that is seen. -/
theorem Seen.at_ {w : World} {v : Value} {xs : List Int} (h : Seen w v xs) {k : Nat} (hk : k < xs.length) : ∃ b off c, v = .slice (some ⟨b, off, none⟩) xs.length c ∧ b < w.heap.size ∧ w.cell? ⟨b, off + k, none⟩ = some (.int .i64 (xs.getD k 0)) := by
  obtain ⟨A, c, rfl, _, h⟩ := h
  obtain ⟨b, off, rfl, hb, hc⟩ := h (by omega)
  exact ⟨b, off, c, rfl, hb, hc k hk⟩

def hasM (x y z : Int) (ts gs rs : List Int) (i : Int) : Bool := moB x y z ts gs rs && decide (0 ≤ i ∧ i < x * y * z)
theorem mo_true {x y z : Int} {ts gs rs : List Int} (h : moB x y z ts gs rs = true) : goodB x y z = true ∧ (ts.length : Int) = x * y * z ∧ (gs.length : Int) = x * y * z ∧ (rs.length : Int) = x * y * z ∧ allB 10000 ts = true ∧ allB 1000 gs = true ∧ allB 4 rs = true := by
  unfold moB areB at h
  simp only [Bool.and_eq_true, decide_eq_true_eq] at h
  exact ⟨h.1, h.2.1.1, h.2.2.1.1, h.2.2.2.1, h.2.1.2, h.2.2.1.2, h.2.2.2.2⟩
/-- The metal of block k. -/
def metal (ts gs : List Int) (k : Nat) : Int := ts.getD k 0 * gs.getD k 0
def metV (x y z : Int) (ts gs rs : List Int) (i : Int) : Int := if hasM x y z ts gs rs i then metal ts gs i.toNat else 0
theorem metal_box {x y z : Int} {ts gs rs : List Int} (h : moB x y z ts gs rs = true) {k : Nat} (hk : (k : Int) < x * y * z) : k < ts.length ∧ k < gs.length ∧ k < rs.length ∧ 0 ≤ ts.getD k 0 ∧ ts.getD k 0 ≤ 10000 ∧ 0 ≤ gs.getD k 0 ∧ gs.getD k 0 ≤ 1000 ∧ 0 ≤ rs.getD k 0 ∧ rs.getD k 0 ≤ 4 ∧ 0 ≤ metal ts gs k ∧ metal ts gs k ≤ 10000000 := by
  obtain ⟨_, a1, a2, a3, b1, b2, b3⟩ := mo_true h
  have k1 : k < ts.length := by omega
  have k2 : k < gs.length := by omega
  have k3 : k < rs.length := by omega
  have p1 := all_at b1 k1
  have p2 := all_at b2 k2
  have p3 := all_at b3 k3
  have p4 := mul_box p1.1 p1.2 p2.1 p2.2
  exact ⟨k1, k2, k3, p1.1, p1.2, p2.1, p2.2, p3.1, p3.2, p4.1, p4.2⟩

end Go.Proofs.YtgibkjjjnfjbkaaDoor
