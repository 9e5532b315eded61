/-
  Arguments that are slopes, opened.
-/
import Derived.Test.YtmimilchldjkbaaDoorK6
namespace Go.Proofs.YtmimilchldjkbaaDoor
open Go.ChangeShapes Go.WideShapes Go.ChangeAt Go.RowKit Go.Joins Go.Deep
set_option linter.unusedVariables false

theorem array2 {α : Type} {cs : Array α} (h : cs.size = 2) : ∃ c0 c1, cs = #[c0, c1] := by
  obtain ⟨l⟩ := cs
  match l, h with
  | [c0, c1], _ => exact ⟨c0, c1, rfl⟩
theorem array3 {α : Type} {cs : Array α} (h : cs.size = 3) : ∃ c0 c1 c2, cs = #[c0, c1, c2] := by
  obtain ⟨l⟩ := cs
  match l, h with
  | [c0, c1, c2], _ => exact ⟨c0, c1, c2, rfl⟩
section
variable {H : Type} {enc : TypeId × Value → H} {W : World}
set_option maxRecDepth 100000 in
theorem seenT_of_trod {fuel : Nat} {cs : List Value} {x : DataW H × List MemPlace} (h : DataW.trod enc Tryd.prog W 0 (fun _ => true) true fuel 37 cs = some x) : ∃ v tss, cs = [v] ∧ SeenT W v tss := by
  rcases open_slice Tryd.underlying37 h with ⟨rfl, _⟩ | ⟨a, len, cap, m, k, D, Pl, rfl, _, hl, hm, hmm, _, hi⟩
  · exact ⟨_, [], rfl, none, 0, rfl, by unfold maxLen; simp, fun h => by simp at h⟩
  · have k1 : Tryd.prog.cellsOf 139 = 1 := by kernel_rfl
    simp only [if_true] at hmm
    have hc : ∀ i, i < len → ∃ (u : Value) (n : Nat) (xs : List Int), W.cell? (a.add i) = some u ∧ SeenP W u n xs := fun i hil => by
      obtain ⟨cs', hcs, ht⟩ := hi i (by omega)
      rw [k1, Nat.mul_one] at hcs
      obtain ⟨_, hcl, hat⟩ := World.cells?_some hcs
      obtain ⟨u, n, xs, hu, hs⟩ := seenP_of_trod ht
      subst hu
      have a0 := hat 0 (by simp)
      rw [show (a.add i).add 0 = a.add i by unfold Addr.add; simp] at a0
      exact ⟨u, n, xs, by simpa using a0, hs⟩
    obtain ⟨f, hf⟩ : ∃ f : Nat → List Int, ∀ i, i < len → ∃ u n, W.cell? (a.add i) = some u ∧ SeenP W u n (f i) := by
      refine ⟨fun i => if h : i < len then (hc i h).choose_spec.choose_spec.choose else [], fun i hi => ?_⟩
      simp only [hi, dite_true]
      exact ⟨_, _, (hc i hi).choose_spec.choose_spec.choose_spec⟩
    have hlen : ((List.range len).map f).length = len := by simp
    have hget : ∀ i, i < len → ((List.range len).map f).getD i [] = f i := fun i hi => by simp [List.getD_eq_getElem?_getD, hi]
    refine ⟨_, (List.range len).map f, rfl, some a, cap, by rw [hlen], by rw [hlen]; omega, fun h0 => ?_⟩
    rw [hlen] at h0 ⊢
    obtain ⟨b, off, spot⟩ := a
    obtain ⟨u0, n0, h00, _⟩ := hf 0 h0
    have hspot : spot = none := by simpa [Addr.add] using World.cell?_spot h00
    subst hspot
    rw [add_at] at h00
    refine ⟨b, off, rfl, lt_of_cell h00, fun k hk => ?_⟩
    obtain ⟨u, n, h1, h2⟩ := hf k hk
    rw [add_at] at h1
    refine ⟨u, h1, ?_⟩
    rw [hget k hk]
    have h3 : (f k).length = n * 3 := by obtain ⟨_, _, _, _, hx, _⟩ := h2; exact hx
    rw [show (f k).length / 3 = n by omega]
    exact h2
set_option maxRecDepth 100000 in
theorem open_slopes {r : Reach} {b0 : Nat} {v : Value} {d : DataW H} {p : List MemPlace} (hv : Value.okWide Tryd.prog W r b0 39 v) (h : DataW.Trod enc Tryd.prog W 0 (fun _ => true) true 39 v d p) : ∃ v1 v2 ss tss, v = .agg #[v1, v2] ∧ LookS W v1 v2 ss tss := by
  obtain ⟨cs, rfl, hsz⟩ := okWide_struct Tryd.underlying39 hv
  obtain ⟨c0, c1, rfl⟩ := array2 (hsz.trans (by kernel_rfl))
  obtain ⟨fuel, hf⟩ := h
  obtain ⟨y0, y1, n, hx, _, h0, h1⟩ := trod_struct2 Tryd.underlying39 hf
  have k1 : Tryd.prog.cellsOf 24 = 1 := by kernel_rfl
  have k2 : Tryd.prog.cellsOf 37 = 1 := by kernel_rfl
  simp [Value.cells, k1, k2] at h0 h1
  obtain ⟨v1, ss, e0, s1⟩ := seen_of_trod h0
  obtain ⟨v2, tss, e1, s2⟩ := seenT_of_trod h1
  simp at e0 e1
  subst e0 e1
  exact ⟨_, _, ss, tss, rfl, ⟨s1, s2⟩⟩
set_option maxRecDepth 100000 in
theorem open_grid {r : Reach} {b0 : Nat} {v : Value} {d : DataW H} {p : List MemPlace} (hv : Value.okWide Tryd.prog W r b0 23 v) (h : DataW.Trod enc Tryd.prog W 0 (fun _ => true) true 23 v d p) : ∃ x y z, v = .agg #[.int .i64 x, .int .i64 y, .int .i64 z] := by
  obtain ⟨cs, rfl, hsz⟩ := okWide_struct Tryd.underlying23 hv
  obtain ⟨c0, c1, c2, rfl⟩ := array3 (hsz.trans (by kernel_rfl))
  obtain ⟨fuel, hf⟩ := h
  obtain ⟨z0, z1, z2, m, hy, _, g0, g1, g2⟩ := trod_struct3 Tryd.underlying23 hf
  have ki : Tryd.prog.cellsOf 3 = 1 := by kernel_rfl
  simp [Value.cells, ki] at g0 g1 g2
  obtain ⟨x, e0, _, _⟩ := DataW.trod_int Tryd.underlying3 g0
  obtain ⟨y, e1, _, _⟩ := DataW.trod_int Tryd.underlying3 g1
  obtain ⟨z, e2, _, _⟩ := DataW.trod_int Tryd.underlying3 g2
  simp at e0 e1 e2
  subst e0 e1 e2
  exact ⟨x, y, z, rfl⟩
end
end Go.Proofs.YtmimilchldjkbaaDoor
