/-
  Lists of offsets found as they were marked; arguments that are lists of offsets, opened.
-/
import Derived.Test.YtmimilchldjkbaaDoorO6
import Derived.Test.YtmimilchldjkbaaDoorOpenL
import Derived.Deep.Slices
namespace Go.Proofs.YtmimilchldjkbaaDoor
open Go.ChangeShapes Go.WideShapes Go.ChangeAt Go.RowKit Go.Joins Go.Deep
set_option linter.unusedVariables false

set_option maxHeartbeats 2000000 in
theorem c_heldOffsetS (v : Value) (B n : Nat) (k0 : Int) (w : World) (hl : n ≤ 1048576) (hk1 : 0 ≤ k0) (hk2 : k0 ≤ 4000000) (h : RowP w B v n (marks k0 (n * 3))) :
    Calls Tryd.prog 95 #[v, .int .i64 k0] w fun e w' => e = .returned (.int .i64 (k0 + (n : Int) * 3)) ∧ w = w' := by
  by_cases h0 : n = 0
  · subst h0
    obtain ⟨A1, c1, rfl⟩ := h.shape
    clear h
    go_enter Tryd.func95, Tryd.ntmps95
    go_wp2
    go_rounds 1
    go_ret
    exact ⟨ret_int (by simp), rfl⟩
  · obtain ⟨g, c, rfl, _, _⟩ := h.form (by omega)
    have E1 : Hid (∀ j : Nat, j < n * 3 → w.cell? ⟨g, j, none⟩ = some (.int .i64 (k0 + (j : Int)))) := fun j hj => by rw [h.cell j hj, marks_getD _ _ _ hj]
    clear h h0
    go_enter Tryd.func95, Tryd.ntmps95
    go_wp2
    go_loop [1, 5] (fun q i => ∃ k : Nat, k ≤ n ∧ i = .int .i64 k ∧ q = .int .i64 (k0 + (k : Int) * 3)) (fun _ i => n - (intOf i).toNat)
    case atStart => exact ⟨0, Nat.zero_le _, rfl, by simp⟩
    case round =>
      obtain ⟨k, hk, rfl, rfl⟩ := hrel
      by_cases hlt : k < n
      · have p0 : w.cell? ⟨g, k * 3, none⟩ = some (.int .i64 (k0 + (k : Int) * 3)) := by rw [E1.out (k * 3) (by omega), show k0 + ((k * 3 : Nat) : Int) = k0 + (k : Int) * 3 by omega]
        have p1 : w.cell? ⟨g, k * 3 + 1, none⟩ = some (.int .i64 (k0 + (k : Int) * 3 + 1)) := by rw [E1.out (k * 3 + 1) (by omega), show k0 + ((k * 3 + 1 : Nat) : Int) = k0 + (k : Int) * 3 + 1 by omega]
        have p2 : w.cell? ⟨g, k * 3 + 2, none⟩ = some (.int .i64 (k0 + (k : Int) * 3 + 1 + 1)) := by rw [E1.out (k * 3 + 2) (by omega), show k0 + ((k * 3 + 2 : Nat) : Int) = k0 + (k : Int) * 3 + 1 + 1 by omega]
        have h1 : (k0 + (k : Int) * 3 != k0 + (k : Int) * 3) = false := by simp
        have h2 : (k0 + (k : Int) * 3 + 1 != k0 + (k : Int) * 3 + 1) = false := by simp
        have h3 : (k0 + (k : Int) * 3 + 1 + 1 != k0 + (k : Int) * 3 + 1 + 1) = false := by simp
        have b1 : (0 : Int) ≤ (k : Int) := by omega
        have b2 : (k : Int) < (n : Int) := by omega
        go_wp2
        go_round
        case rel => exact ⟨k + 1, by omega, by go_num, by rw [show (k0 + (k : Int) * 3 + 1 + 1 + 1) = k0 + ((k + 1 : Nat) : Int) * 3 by omega]⟩
        case measure => simp [intOf]; omega
      · obtain rfl : k = n := by omega
        go_wp2
        go_ret
        exact ⟨rfl, rfl⟩

section
variable {H : Type} {enc : TypeId × Value → H} {W : World}
/-- The flat numbers of the offsets that f tells. -/
def flat3 (f : Nat → Int × Int × Int) : Nat → List Int
  | 0 => []
  | k + 1 => flat3 f k ++ [(f k).1, (f k).2.1, (f k).2.2]
theorem flat3_len (f : Nat → Int × Int × Int) : ∀ n, (flat3 f n).length = n * 3
  | 0 => rfl
  | n + 1 => by unfold flat3; rw [List.length_append, flat3_len f n]; simp; omega
theorem flat3_at (f : Nat → Int × Int × Int) : ∀ (n : Nat) {k : Nat}, k < n → (flat3 f n).getD (k * 3) 0 = (f k).1 ∧ (flat3 f n).getD (k * 3 + 1) 0 = (f k).2.1 ∧ (flat3 f n).getD (k * 3 + 2) 0 = (f k).2.2
  | n + 1, k, h => by
    have hl := flat3_len f n
    unfold flat3
    by_cases e : k < n
    · obtain ⟨a, b, c⟩ := flat3_at f n e
      simp only [List.getD_eq_getElem?_getD] at *
      rw [List.getElem?_append_left (by omega), List.getElem?_append_left (by omega), List.getElem?_append_left (by omega)]
      exact ⟨a, b, c⟩
    · obtain rfl : k = n := by omega
      simp only [List.getD_eq_getElem?_getD]
      rw [List.getElem?_append_right (by omega), List.getElem?_append_right (by omega), List.getElem?_append_right (by omega), hl]
      simp [show k * 3 + 1 - k * 3 = 1 by omega, show k * 3 + 2 - k * 3 = 2 by omega]

set_option maxRecDepth 100000 in
theorem seenP_of_trod {fuel : Nat} {cs : List Value} {x : DataW H × List MemPlace} (h : DataW.trod enc Tryd.prog W 0 (fun _ => true) true fuel 139 cs = some x) : ∃ v n xs, cs = [v] ∧ SeenP W v n xs := by
  rcases open_slice Tryd.underlying139 h with ⟨rfl, _⟩ | ⟨a, len, cap, m, k, D, Pl, rfl, _, hl, hm, hmm, _, hi⟩
  · exact ⟨_, 0, [], rfl, none, 0, rfl, by unfold maxLen; omega, rfl, fun h => by omega⟩
  · have k3 : Tryd.prog.cellsOf 169 = 3 := by kernel_rfl
    have ki : Tryd.prog.cellsOf 3 = 1 := by kernel_rfl
    simp only [if_true] at hmm
    have hc : ∀ i, i < len → ∃ t m r : Int, W.cell? (a.add (i * 3)) = some (.int .i64 t) ∧ W.cell? ((a.add (i * 3)).add 1) = some (.int .i64 m) ∧ W.cell? ((a.add (i * 3)).add 2) = some (.int .i64 r) := fun i hil => by
      obtain ⟨cs', hcs, ht⟩ := hi i (by omega)
      rw [k3] at hcs
      obtain ⟨_, hcl, hat⟩ := World.cells?_some hcs
      obtain ⟨z0, z1, z2, n', _, _, g0, g1, g2⟩ := trod_struct3 Tryd.underlying169 ht
      match cs', hcl with
      | [c0, c1, c2], _ =>
        simp [ki] at g0 g1 g2
        obtain ⟨t, e0, _, _⟩ := DataW.trod_int Tryd.underlying3 g0
        obtain ⟨m', e1, _, _⟩ := DataW.trod_int Tryd.underlying3 g1
        obtain ⟨r, e2, _, _⟩ := DataW.trod_int Tryd.underlying3 g2
        simp at e0 e1 e2
        subst e0 e1 e2
        have a0 := hat 0 (by omega)
        have a1 := hat 1 (by omega)
        have a2 := hat 2 (by omega)
        simp at a1 a2
        rw [show (a.add (i * 3)).add 0 = a.add (i * 3) by unfold Addr.add; simp] at a0
        exact ⟨t, m', r, by simpa using a0, a1, a2⟩
    obtain ⟨f, hf⟩ : ∃ f : Nat → Int × Int × Int, ∀ i, i < len → W.cell? (a.add (i * 3)) = some (.int .i64 (f i).1) ∧ W.cell? ((a.add (i * 3)).add 1) = some (.int .i64 (f i).2.1) ∧ W.cell? ((a.add (i * 3)).add 2) = some (.int .i64 (f i).2.2) := by
      refine ⟨fun i => if h : i < len then ((hc i h).choose, (hc i h).choose_spec.choose, (hc i h).choose_spec.choose_spec.choose) else (0, 0, 0), fun i hi => ?_⟩
      simp only [hi, dite_true]
      exact (hc i hi).choose_spec.choose_spec.choose_spec
    refine ⟨_, len, flat3 f len, rfl, some a, cap, rfl, by omega, flat3_len f len, fun h0 => ?_⟩
    obtain ⟨b, off, spot⟩ := a
    have hspot : spot = none := by simpa [Addr.add] using World.cell?_spot (hf 0 h0).1
    subst hspot
    have h00 := (hf 0 h0).1
    rw [add_at] at h00
    refine ⟨b, off, rfl, lt_of_cell h00, fun k hk => ?_⟩
    have hq : k / 3 < len := by omega
    obtain ⟨x0, x1, x2⟩ := hf (k / 3) hq
    obtain ⟨y0, y1, y2⟩ := flat3_at f len hq
    rw [add_at] at x0
    rw [add_at, add_at] at x1
    rw [add_at, add_at] at x2
    have h3 : k % 3 < 3 := Nat.mod_lt _ (by omega)
    match hr : k % 3, h3 with
    | 0, _ =>
      have e : k = k / 3 * 3 := by omega
      rw [← e] at x0 y0
      rw [x0, y0]
    | 1, _ =>
      have e : k = k / 3 * 3 + 1 := by omega
      rw [Nat.add_assoc, ← e] at x1
      rw [← e] at y1
      rw [x1, y1]
    | 2, _ =>
      have e : k = k / 3 * 3 + 2 := by omega
      rw [Nat.add_assoc, ← e] at x2
      rw [← e] at y2
      rw [x2, y2]
set_option maxRecDepth 100000 in
theorem open_pieces {r : Reach} {b0 : Nat} {v : Value} {d : DataW H} {p : List MemPlace} (hv : Value.okWide Tryd.prog W r b0 139 v) (h : DataW.Trod enc Tryd.prog W 0 (fun _ => true) true 139 v d p) : ∃ n xs, SeenP W v n xs := by
  obtain ⟨a, len, cap, rfl⟩ := okWide_slice Tryd.underlying139 hv
  obtain ⟨fuel, hf⟩ := h
  obtain ⟨u, n, xs, hu, hs⟩ := seenP_of_trod hf
  simp [Value.cells] at hu
  subst hu
  exact ⟨n, xs, hs⟩
end
end Go.Proofs.YtmimilchldjkbaaDoor
