/-
  Valid rules: plain facts.
-/
import Derived.Test.YtdgkgnlilcbggaaDoorE3
import Derived.Test.YtdgkgnlilcbggaaDoorU2
namespace Go.Proofs.YtdgkgnlilcbggaaDoor
set_option linter.unusedVariables false

/-- The kinds of a list of parts that is told by its numbers. -/
def kdf (xs : List Int) (j : Nat) : Int := xs.getD (j * 2) 0
def ParTo (xs : List Int) (k : Nat) : Prop := ∀ j : Nat, j < k → parB (xs.getD (j * 2) 0) (xs.getD (j * 2 + 1) 0) = true
def parAll (n : Nat) (xs : List Int) : Bool := (List.range n).all fun j => parB (xs.getD (j * 2) 0) (xs.getD (j * 2 + 1) 0)
theorem ParTo.zero (xs : List Int) : ParTo xs 0 := fun j hj => by omega
theorem ParTo.succ {xs : List Int} {k : Nat} (h : ParTo xs k) (hk : parB (xs.getD (k * 2) 0) (xs.getD (k * 2 + 1) 0) = true) : ParTo xs (k + 1) := fun j hj => by
  by_cases e : j = k
  · rw [e]; exact hk
  · exact h j (by omega)
theorem parAll_true {n : Nat} {xs : List Int} (h : ParTo xs n) : parAll n xs = true := by
  unfold parAll
  rw [List.all_eq_true]
  exact fun j hj => h j (List.mem_range.1 hj)
theorem parAll_false {n : Nat} {xs : List Int} {k : Nat} (hk : k < n) (h : parB (xs.getD (k * 2) 0) (xs.getD (k * 2 + 1) 0) = false) : parAll n xs = false := by
  unfold parAll
  rw [List.all_eq_false]
  exact ⟨k, List.mem_range.2 hk, by show ¬ parB _ _ = true; rw [h]; simp⟩
theorem parAll_to {n : Nat} {xs : List Int} (h : parAll n xs = true) : ParTo xs n := fun j hj => by
  unfold parAll at h
  rw [List.all_eq_true] at h
  exact h j (List.mem_range.2 hj)
theorem parB_kind {k v : Int} (h : parB k v = true) : 0 ≤ k ∧ k ≤ 8 := by
  unfold parB at h
  split at h
  · omega
  · split at h
    · omega
    · have := of_decide_eq_true h; omega
def fullB (ks : Nat → Int) (n : Nat) : Bool := (List.range n).all fun j => decide (ndA ks j ≤ (stk ks j).length)
theorem fullB_true {ks : Nat → Int} {n : Nat} (h : FullTo ks n) : fullB ks n = true := by
  unfold fullB
  rw [List.all_eq_true]
  exact fun j hj => decide_eq_true (h j (List.mem_range.1 hj))
theorem fullB_to {ks : Nat → Int} {n : Nat} (h : fullB ks n = true) : FullTo ks n := fun j hj => by
  unfold fullB at h
  rw [List.all_eq_true] at h
  exact of_decide_eq_true (h j (List.mem_range.2 hj))
theorem fullB_false {ks : Nat → Int} {n k : Nat} (hk : k < n) (h : ¬ ndA ks k ≤ (stk ks k).length) : fullB ks n = false := by
  cases e : fullB ks n
  · rfl
  · exact absurd (fullB_to e k hk) h
/-- All parts valid, and together one rule. -/
def treeB (n : Nat) (xs : List Int) : Bool := parAll n xs && fullB (kdf xs) n && decide ((stk (kdf xs) n).length = 1)
/-- A valid rule. -/
def ruleB (n : Nat) (xs : List Int) : Bool := decide (1 ≤ n ∧ n ≤ 39) && (treeB n xs && decide ((dps (kdf xs) n).getD (n - 1) 0 ≤ 12))
theorem treeB_true {n : Nat} {xs : List Int} (h : treeB n xs = true) : ParTo xs n ∧ FullTo (kdf xs) n ∧ (stk (kdf xs) n).length = 1 := by
  unfold treeB at h
  simp only [Bool.and_eq_true, decide_eq_true_eq] at h
  exact ⟨parAll_to h.1.1, fullB_to h.1.2, h.2⟩
theorem treeB_of {n : Nat} {xs : List Int} (h : ParTo xs n) (h1 : FullTo (kdf xs) n) (h2 : (stk (kdf xs) n).length = 1) : treeB n xs = true := by
  unfold treeB
  rw [parAll_true h, fullB_true h1, decide_eq_true h2]; rfl
theorem LastIs.unique {ks : Nat → Int} {e len z z' : Nat} (h : LastIs ks e len z) (h' : LastIs ks e len z') : z = z' := by
  rcases h with ⟨rfl, h⟩ | ⟨a0, a1, a2, a3⟩
  · rcases h' with ⟨rfl, _⟩ | ⟨b0, b1, b2, b3⟩
    · rfl
    · exact absurd b2 (h _ b0 b1)
  · rcases h' with ⟨rfl, h'⟩ | ⟨b0, b1, b2, b3⟩
    · exact absurd a2 (h' _ a0 a1)
    · rcases Nat.lt_trichotomy z z' with l | l | l
      · exact absurd a2 (b3 _ a0 l)
      · exact l
      · exact absurd b2 (a3 _ b0 l)
theorem tree_of {ks : Nat → Int} {n : Nat} (h : FullTo ks n) (h1 : (stk ks n).length = 1) : ∃ t, At ks t (n - 1) ∧ t.size = n ∧ 0 < n ∧ (dps ks n).getD (n - 1) 0 = (t.depth : Int) := by
  obtain ⟨t, hA, hs, hp⟩ := one_tree h h1
  exact ⟨t, hA, hs, hp, hA.depth (by omega)⟩
/-- The parts are one rule exactly if the last one is made of all. -/
theorem tree_iff {n : Nat} {xs : List Int} {z : Nat} (hn : 0 < n) (hp : ParTo xs n) (hz : LastIs (kdf xs) (n - 1) n z) : treeB n xs = decide (z = n) := by
  by_cases e : z = n
  · rw [decide_eq_true e]
    subst e
    rcases hz with ⟨rfl, _⟩ | ⟨_, _, h0, h⟩
    · omega
    · obtain ⟨f, l⟩ := full_of_mis hn h0 h
      exact treeB_of hp f l
  · rw [decide_eq_false e]
    cases ht : treeB n xs
    · rfl
    · obtain ⟨_, f, l⟩ := treeB_true ht
      obtain ⟨t, hA, hs, _⟩ := tree_of f l
      have := hz.unique (hA.last (show t.size ≤ n by omega))
      omega
theorem rule_size {n : Nat} {xs : List Int} (h : ruleB n xs = true) : 1 ≤ n ∧ n ≤ 39 ∧ treeB n xs = true ∧ (dps (kdf xs) n).getD (n - 1) 0 ≤ 12 := by
  unfold ruleB at h
  simp only [Bool.and_eq_true, decide_eq_true_eq] at h
  exact ⟨h.1.1, h.1.2, h.2.1, h.2.2⟩
end Go.Proofs.YtdgkgnlilcbggaaDoor
