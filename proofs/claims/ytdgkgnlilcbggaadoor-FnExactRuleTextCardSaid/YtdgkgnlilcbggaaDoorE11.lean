/-
  Contracts: DepthOfRule, in the program and in the model.
-/
import Derived.Test.YtdgkgnlilcbggaaDoorE10
namespace Go.Proofs.YtdgkgnlilcbggaaDoor
open Go.RowKit
set_option linter.unusedVariables false

def depV (n : Nat) (xs : List Int) : Int := if ruleB n xs then (dps (kdf xs) n).getD (n - 1) 0 else 0
theorem rule_tree {n : Nat} {xs : List Int} (h : ruleB n xs = true) : ∃ t, At (kdf xs) t (n - 1) ∧ t.size = n ∧ 1 ≤ n ∧ n ≤ 39 ∧ ParTo xs n ∧ FullTo (kdf xs) n ∧ (dps (kdf xs) n).getD (n - 1) 0 = (t.depth : Int) := by
  obtain ⟨n1, n2, ht, _⟩ := rule_size h
  obtain ⟨hp, f, l⟩ := treeB_true ht
  obtain ⟨t, hA, hs, _, hd⟩ := tree_of f l
  exact ⟨t, hA, hs, n1, n2, hp, f, hd⟩
theorem rule_yes {n : Nat} {xs : List Int} (h : ruleB n xs = true) : treeB n xs = true ∧ (parAll n xs && fullB (kdf xs) n) = true := by
  obtain ⟨_, _, ht, _⟩ := rule_size h
  refine ⟨ht, ?_⟩
  unfold treeB at ht
  simp only [Bool.and_eq_true] at ht ⊢
  exact ht.1

end Go.Proofs.YtdgkgnlilcbggaaDoor
