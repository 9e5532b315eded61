/-
  Lists of parts found as they were marked; arguments that are lists of parts, opened.
-/
import Derived.Test.YtdgkgnlilcbggaaDoorE6
import Derived.Test.YtdgkgnlilcbggaaDoorOpenL
import Derived.Deep.Slices
namespace Go.Proofs.YtdgkgnlilcbggaaDoor
open Go.ChangeShapes Go.WideShapes Go.ChangeAt Go.RowKit Go.Joins Go.Deep
set_option linter.unusedVariables false

section
variable {H : Type} {enc : TypeId × Value → H} {W : World}
/-- The flat numbers of the parts that f tells. -/
def flat2 (f : Nat → Int × Int) : Nat → List Int
  | 0 => []
  | k + 1 => flat2 f k ++ [(f k).1, (f k).2]
theorem flat2_len (f : Nat → Int × Int) : ∀ n, (flat2 f n).length = n * 2
  | 0 => rfl
  | n + 1 => by unfold flat2; rw [List.length_append, flat2_len f n]; simp; omega
theorem flat2_at (f : Nat → Int × Int) : ∀ (n : Nat) {k : Nat}, k < n → (flat2 f n).getD (k * 2) 0 = (f k).1 ∧ (flat2 f n).getD (k * 2 + 1) 0 = (f k).2
  | n + 1, k, h => by
    have hl := flat2_len f n
    unfold flat2
    by_cases e : k < n
    · obtain ⟨a, b⟩ := flat2_at f n e
      simp only [List.getD_eq_getElem?_getD] at *
      rw [List.getElem?_append_left (by omega), List.getElem?_append_left (by omega)]
      exact ⟨a, b⟩
    · obtain rfl : k = n := by omega
      simp only [List.getD_eq_getElem?_getD]
      rw [List.getElem?_append_right (by omega), List.getElem?_append_right (by omega), hl]
      simp [show k * 2 + 1 - k * 2 = 1 by omega]

set_option maxRecDepth 100000 in
theorem seenP_of_trod {fuel : Nat} {cs : List Value} {x : DataW H × List MemPlace} (h : DataW.trod enc Tryd.prog W 0 (fun _ => true) true fuel 22 cs = some x) : ∃ v n xs, cs = [v] ∧ SeenP W v n xs := by
  rcases open_slice Tryd.underlying22 h with ⟨rfl, _⟩ | ⟨a, len, cap, m, k, D, Pl, rfl, _, hl, hm, hmm, _, hi⟩
  · exact ⟨_, 0, [], rfl, none, 0, rfl, by unfold maxLen; omega, rfl, fun h => by omega⟩
  · have k3 : Tryd.prog.cellsOf 35 = 2 := by kernel_rfl
    have ki : Tryd.prog.cellsOf 3 = 1 := by kernel_rfl
    simp only [if_true] at hmm
    have hc : ∀ i, i < len → ∃ t m : Int, W.cell? (a.add (i * 2)) = some (.int .i64 t) ∧ W.cell? ((a.add (i * 2)).add 1) = some (.int .i64 m) := fun i hil => by
      obtain ⟨cs', hcs, ht⟩ := hi i (by omega)
      rw [k3] at hcs
      obtain ⟨_, hcl, hat⟩ := World.cells?_some hcs
      obtain ⟨z0, z1, n', _, _, g0, g1⟩ := trod_struct2 Tryd.underlying35 ht
      match cs', hcl with
      | [c0, c1], _ =>
        simp [ki] at g0 g1
        obtain ⟨t, e0, _, _⟩ := DataW.trod_int Tryd.underlying3 g0
        obtain ⟨m', e1, _, _⟩ := DataW.trod_int Tryd.underlying3 g1
        simp at e0 e1
        subst e0 e1
        have a0 := hat 0 (by omega)
        have a1 := hat 1 (by omega)
        simp at a1
        rw [show (a.add (i * 2)).add 0 = a.add (i * 2) by unfold Addr.add; simp] at a0
        exact ⟨t, m', by simpa using a0, a1⟩
    obtain ⟨f, hf⟩ : ∃ f : Nat → Int × Int, ∀ i, i < len → W.cell? (a.add (i * 2)) = some (.int .i64 (f i).1) ∧ W.cell? ((a.add (i * 2)).add 1) = some (.int .i64 (f i).2) := by
      refine ⟨fun i => if h : i < len then ((hc i h).choose, (hc i h).choose_spec.choose) else (0, 0), fun i hi => ?_⟩
      simp only [hi, dite_true]
      exact (hc i hi).choose_spec.choose_spec
    refine ⟨_, len, flat2 f len, rfl, some a, cap, rfl, by omega, flat2_len f len, fun h0 => ?_⟩
    obtain ⟨b, off, spot⟩ := a
    have hspot : spot = none := by simpa [Addr.add] using World.cell?_spot (hf 0 h0).1
    subst hspot
    have h00 := (hf 0 h0).1
    rw [add_at] at h00
    refine ⟨b, off, rfl, lt_of_cell h00, fun k hk => ?_⟩
    have hq : k / 2 < len := by omega
    obtain ⟨x0, x1⟩ := hf (k / 2) hq
    obtain ⟨y0, y1⟩ := flat2_at f len hq
    rw [add_at] at x0
    rw [add_at, add_at] at x1
    have h3 : k % 2 < 2 := Nat.mod_lt _ (by omega)
    match hr : k % 2, h3 with
    | 0, _ =>
      have e : k = k / 2 * 2 := by omega
      rw [← e] at x0 y0
      rw [x0, y0]
    | 1, _ =>
      have e : k = k / 2 * 2 + 1 := by omega
      rw [Nat.add_assoc, ← e] at x1
      rw [← e] at y1
      rw [x1, y1]
set_option maxRecDepth 100000 in
theorem open_pieces {r : Reach} {b0 : Nat} {v : Value} {d : DataW H} {p : List MemPlace} (hv : Value.okWide Tryd.prog W r b0 22 v) (h : DataW.Trod enc Tryd.prog W 0 (fun _ => true) true 22 v d p) : ∃ n xs, SeenP W v n xs := by
  obtain ⟨a, len, cap, rfl⟩ := okWide_slice Tryd.underlying22 hv
  obtain ⟨fuel, hf⟩ := h
  obtain ⟨u, n, xs, hu, hs⟩ := seenP_of_trod hf
  simp [Value.cells] at hu
  subst hu
  exact ⟨n, xs, hs⟩
end
end Go.Proofs.YtdgkgnlilcbggaaDoor
