/-
  Arguments that are lists of lists, opened.
-/
import Derived.Test.YtfpjodoimfbadaaN1
import Derived.Test.YtfpjodoimfbadaaOpenL
namespace Go.Proofs.Ytfpjodoimfbadaa
open Go.ChangeShapes Go.WideShapes Go.ChangeAt Go.RowKit Go.Joins Go.Deep
set_option linter.unusedVariables false
section
variable {H : Type} {enc : TypeId × Value → H} {W : World}
set_option maxRecDepth 100000 in
theorem seenL_of_trod {fuel : Nat} {cs : List Value} {x : DataW H × List MemPlace} (h : DataW.trod enc Try.prog W 0 (fun _ => true) true fuel 24 cs = some x) : ∃ v tss, cs = [v] ∧ SeenL W v tss := by
  rcases open_slice Try.underlying24 h with ⟨rfl, _⟩ | ⟨a, len, cap, m, k, D, Pl, rfl, _, hl, hm, hmm, _, hi⟩
  · exact ⟨_, [], rfl, none, 0, rfl, by unfold maxLen; simp, fun h => by simp at h⟩
  · have k1 : Try.prog.cellsOf 25 = 1 := by kernel_rfl
    simp only [if_true] at hmm
    have hc : ∀ i, i < len → ∃ (u : Value) (xs : List Int), W.cell? (a.add i) = some u ∧ Seen W u xs := fun i hil => by
      obtain ⟨cs', hcs, ht⟩ := hi i (by omega)
      rw [k1, Nat.mul_one] at hcs
      obtain ⟨_, hcl, hat⟩ := World.cells?_some hcs
      obtain ⟨u, xs, hu, hs⟩ := seen_of_trod ht
      subst hu
      have a0 := hat 0 (by simp)
      rw [show (a.add i).add 0 = a.add i by unfold Addr.add; simp] at a0
      exact ⟨u, xs, by simpa using a0, hs⟩
    obtain ⟨f, hf⟩ : ∃ f : Nat → List Int, ∀ i, i < len → ∃ u, W.cell? (a.add i) = some u ∧ Seen W u (f i) := by
      refine ⟨fun i => if h : i < len then (hc i h).choose_spec.choose else [], fun i hi => ?_⟩
      simp only [hi, dite_true]
      exact ⟨_, (hc i hi).choose_spec.choose_spec⟩
    have hlen : ((List.range len).map f).length = len := by simp
    have hget : ∀ i, i < len → ((List.range len).map f).getD i [] = f i := fun i hi => by simp [List.getD_eq_getElem?_getD, hi]
    refine ⟨_, (List.range len).map f, rfl, some a, cap, by rw [hlen], by rw [hlen]; omega, fun h0 => ?_⟩
    rw [hlen] at h0 ⊢
    obtain ⟨b, off, spot⟩ := a
    obtain ⟨u0, h00, _⟩ := hf 0 h0
    have hspot : spot = none := by simpa [Addr.add] using World.cell?_spot h00
    subst hspot
    rw [add_at] at h00
    refine ⟨b, off, rfl, lt_of_cell h00, fun k hk => ?_⟩
    obtain ⟨u, h1, h2⟩ := hf k hk
    rw [add_at] at h1
    exact ⟨u, h1, by rw [hget k hk]; exact h2⟩
set_option maxRecDepth 100000 in
theorem open_rows {r : Reach} {b0 : Nat} {v : Value} {d : DataW H} {p : List MemPlace} (hv : Value.okWide Try.prog W r b0 24 v) (h : DataW.Trod enc Try.prog W 0 (fun _ => true) true 24 v d p) : ∃ tss, SeenL W v tss := by
  obtain ⟨a, len, cap, rfl⟩ := okWide_slice Try.underlying24 hv
  obtain ⟨fuel, hf⟩ := h
  obtain ⟨u, tss, hu, hs⟩ := seenL_of_trod hf
  simp [Value.cells] at hu
  subst hu
  exact ⟨tss, hs⟩
end
end Go.Proofs.Ytfpjodoimfbadaa
