/-
  Contracts: an offset is valid; one comes before another, in the program and in the model.
-/
import Derived.Test.YtmimilchldjkbaaDoorO1
import Derived.Test.YtmimilchldjkbaaDoorGrow
import Derived.Deep.RegionHeld3
import Derived.Deep.CutBlock
import Derived.Deep.DeepCutAuto
namespace Go.Proofs.YtmimilchldjkbaaDoor
open Go.RowKit
set_option linter.unusedVariables false

/-- A struct of three numbers that lies in a block of memory. -/
structure Box3 (w : World) (b : Nat) (x y z : Int) : Prop where
  lt : b < w.heap.size
  c0 : w.cell? ⟨b, 0, none⟩ = some (.int .i64 x)
  c1 : w.cell? ⟨b, 1, none⟩ = some (.int .i64 y)
  c2 : w.cell? ⟨b, 2, none⟩ = some (.int .i64 z)
theorem Box3.below {w w' : World} {b : Nat} {x y z : Int} (h : Box3 w b x y z) (hb : Below w.heap.size w w') : Box3 w' b x y z :=
  ⟨Nat.lt_of_lt_of_le h.lt hb.size, by rw [hb.cell (p := ⟨b, 0, none⟩) h.lt]; exact h.c0, by rw [hb.cell (p := ⟨b, 1, none⟩) h.lt]; exact h.c1, by rw [hb.cell (p := ⟨b, 2, none⟩) h.lt]; exact h.c2⟩
theorem Box3.new (w : World) (x y z : Int) (T : TypeId) : Box3 (w.alloc (.cells #[.int .i64 x, .int .i64 y, .int .i64 z] T)) w.heap.size x y z := ⟨by simp, by simp, by simp, by simp⟩
theorem Box3.drew {w : World} {b : Nat} {x y z : Int} (h : Box3 w b x y z) : Box3 w.drew b x y z := ⟨h.lt, h.c0, h.c1, h.c2⟩

def offB (x y z : Int) : Bool := decide (-2 ≤ x ∧ x ≤ 2 ∧ -2 ≤ y ∧ y ≤ 2 ∧ 1 ≤ z ∧ z ≤ 2)
theorem off_true {x y z : Int} (h : offB x y z = true) : -2 ≤ x ∧ x ≤ 2 ∧ -2 ≤ y ∧ y ≤ 2 ∧ 1 ≤ z ∧ z ≤ 2 := of_decide_eq_true h
/-- One offset comes before another. -/
def befB (a b c x y z : Int) : Bool := decide (c < z ∨ c = z ∧ (b < y ∨ b = y ∧ a < x))
def orI (a b c : Int) : Int := if a = 0 then (if b = 0 then c else b) else a
def cmpO (a b c x y z : Int) : Int := orI (cmpI c z) (cmpI b y) (cmpI a x)
theorem cmpO_neg (a b c x y z : Int) : (cmpO a b c x y z < 0) ↔ befB a b c x y z = true := by
  unfold cmpO orI cmpI befB
  rw [decide_eq_true_iff]
  constructor
  · intro h
    repeat' split at h
    all_goals omega
  · intro h
    repeat' split
    all_goals omega

set_option maxHeartbeats 400000 in
theorem c_isOffset (x y z : Int) (w : World) : Calls Tryd.prog 155 #[.agg #[.int .i64 x, .int .i64 y, .int .i64 z]] w fun e w' => e = .returned (.bool (offB x y z)) ∧ Below w.heap.size w w' := by
  by_cases h : -2 ≤ x ∧ x ≤ 2
  · obtain ⟨h1, h2⟩ := h
    go_enter Tryd.func155, Tryd.ntmps155
    go_wp2
    all_goals
      go_ret
      exact ⟨ret_bool (by unfold offB; first | exact decide_eq_decide.2 (by omega) | (symm; exact decide_eq_false (by omega))), by go_grown⟩
  · have hn : offB x y z = false := decide_eq_false (by omega)
    rw [hn]
    clear hn
    go_enter Tryd.func155, Tryd.ntmps155
    go_wp2
    all_goals first | (exfalso; omega) | (go_ret; exact ⟨rfl, by go_grown⟩)

set_option maxHeartbeats 400000 in
theorem c_slBefore (a b c x y z : Int) (w : World) : Calls Tryd.prog 154 #[.agg #[.int .i64 a, .int .i64 b, .int .i64 c], .agg #[.int .i64 x, .int .i64 y, .int .i64 z]] w fun e w' => e = .returned (.bool (befB a b c x y z)) ∧ Below w.heap.size w w' := by
  by_cases h : c = z
  · subst h
    by_cases h2 : b = y
    · subst h2
      go_enter Tryd.func154, Tryd.ntmps154
      go_wp2
      all_goals first | (exfalso; omega) | (go_ret; exact ⟨ret_bool (by unfold befB; exact decide_eq_decide.2 (by omega)), by go_grown⟩)
    · go_enter Tryd.func154, Tryd.ntmps154
      go_wp2
      all_goals first | (exfalso; omega) | (go_ret; exact ⟨ret_bool (by unfold befB; exact decide_eq_decide.2 (by omega)), by go_grown⟩)
  · go_enter Tryd.func154, Tryd.ntmps154
    go_wp2
    all_goals first | (exfalso; omega) | (go_ret; exact ⟨ret_bool (by unfold befB; exact decide_eq_decide.2 (by omega)), by go_grown⟩)

set_option maxHeartbeats 1000000 in
theorem c_Or (a b c : Int) (g k : Nat) (w : World) (h : Box3 w g a b c) : Calls Tryd.prog 167 #[.slice (some ⟨g, 0, none⟩) 3 k] w fun e w' => e = .returned (.int .i64 (orI a b c)) ∧ w = w' := by
  have c0 := h.c0
  have c1 := h.c1
  have c2 := h.c2
  clear h
  unfold orI
  by_cases h1 : a = 0
  · rw [if_pos h1]
    by_cases h2 : b = 0
    · rw [if_pos h2]
      subst h1
      subst h2
      by_cases h3 : c = 0
      · subst h3
        go_enter Tryd.func167, Tryd.ntmps167
        go_wp2
        go_rounds 4
        go_ret
        exact ⟨rfl, rfl⟩
      · have hc : (c != 0) = true := by simp [h3]
        go_enter Tryd.func167, Tryd.ntmps167
        go_wp2
        go_rounds 4
        go_ret
        exact ⟨rfl, rfl⟩
    · rw [if_neg h2]
      subst h1
      have hc : (b != 0) = true := by simp [h2]
      go_enter Tryd.func167, Tryd.ntmps167
      go_wp2
      go_rounds 4
      go_ret
      exact ⟨rfl, rfl⟩
  · rw [if_neg h1]
    have hc : (a != 0) = true := by simp [h1]
    go_enter Tryd.func167, Tryd.ntmps167
    go_wp2
    go_rounds 4
    go_ret
    exact ⟨rfl, rfl⟩

set_option maxHeartbeats 2000000 in
theorem c_compareOffsets (a b c x y z : Int) (w : World) : Calls Tryd.prog 156 #[.agg #[.int .i64 a, .int .i64 b, .int .i64 c], .agg #[.int .i64 x, .int .i64 y, .int .i64 z]] w fun e w' => e = .returned (.int .i64 (cmpO a b c x y z)) ∧ Below w.heap.size w w' := by
  have hX : Box3 ((w.alloc (.cells #[.int .i64 a, .int .i64 b, .int .i64 c] 133)).alloc (.cells #[.int .i64 x, .int .i64 y, .int .i64 z] 133)) w.heap.size a b c := (Box3.new _ _ _ _ _).below ((Below.refl _ _).alloc (Nat.le_refl _) _)
  have hY : Box3 ((w.alloc (.cells #[.int .i64 a, .int .i64 b, .int .i64 c] 133)).alloc (.cells #[.int .i64 x, .int .i64 y, .int .i64 z] 133)) (w.heap.size + 1) x y z := by
    have := Box3.new (w.alloc (.cells #[.int .i64 a, .int .i64 b, .int .i64 c] 133)) x y z 133
    simp at this
    exact this
  have HX := Lib.hid hX
  have HY := Lib.hid hY
  have HB0 : Hid (Below w.heap.size w ((w.alloc (.cells #[.int .i64 a, .int .i64 b, .int .i64 c] 133)).alloc (.cells #[.int .i64 x, .int .i64 y, .int .i64 z] 133))) := ((Below.refl _ _).alloc (Nat.le_refl _) _).alloc (by simp) _
  clear hX hY
  have HO : Hid (cmpO a b c x y z = orI (cmpI c z) (cmpI b y) (cmpI a x)) := rfl
  generalize cmpO a b c x y z = R at *
  go_enter Tryd.func156, Tryd.ntmps156
  go_wp2_with fail
  generalize ((w.alloc (.cells #[.int .i64 a, .int .i64 b, .int .i64 c] 133)).alloc (.cells #[.int .i64 x, .int .i64 y, .int .i64 z] 133)) = W at *
  have KE : Hid (∀ u, Below W.heap.size W u → u.cell? ⟨w.heap.size, 0, none⟩ = some (.int .i64 a) ∧ u.cell? ⟨w.heap.size, 1, none⟩ = some (.int .i64 b) ∧ u.cell? ⟨w.heap.size, 2, none⟩ = some (.int .i64 c) ∧ u.cell? ⟨w.heap.size + 1, 0, none⟩ = some (.int .i64 x) ∧ u.cell? ⟨w.heap.size + 1, 1, none⟩ = some (.int .i64 y) ∧ u.cell? ⟨w.heap.size + 1, 2, none⟩ = some (.int .i64 z)) := fun u hu => by
    have h1 := HX.out.below hu
    have h2 := HY.out.below hu
    exact ⟨h1.c0, h1.c1, h1.c2, h2.c0, h2.c1, h2.c2⟩
  have KD : Hid (Below W.heap.size W W.drew) := (Below.refl _ _).drew
  have KA : Hid (∀ o, Below W.heap.size W (W.alloc o).drew) := fun o => ((Below.refl _ _).alloc (Nat.le_refl _) _).drew
  go_region_held3 (fun u => u.cell? ⟨w.heap.size, 0, none⟩ = some (.int .i64 a) ∧ u.cell? ⟨w.heap.size, 1, none⟩ = some (.int .i64 b) ∧ u.cell? ⟨w.heap.size, 2, none⟩ = some (.int .i64 c) ∧ u.cell? ⟨w.heap.size + 1, 0, none⟩ = some (.int .i64 x) ∧ u.cell? ⟨w.heap.size + 1, 1, none⟩ = some (.int .i64 y) ∧ u.cell? ⟨w.heap.size + 1, 2, none⟩ = some (.int .i64 z)) (first | with_reducible exact KE.out _ KD.out | with_reducible exact KE.out _ (KA.out _))
    (first | (go_at_call 168; refine (c_Compare _ _ _).mono ?_; rintro e w1 ⟨rfl, rfl⟩) | (go_at_call 167; refine (c_Or _ _ _ _ _ _ (Box3.new _ _ _ _ _).drew).mono ?_; rintro e w1 ⟨rfl, rfl⟩))
  go_wp2
  go_ret
  exact ⟨ret_int HO.out.symm, HB0.out.trans ((KA.out _).mono HB0.out.size)⟩
end Go.Proofs.YtmimilchldjkbaaDoor
