/-
  Contracts: the names of blocks and the texts of grids.
-/
import Derived.Test.YtglcdgonbmdhoaaDoorN1
import Derived.Lib.Hide
import Derived.Laws.Concat
namespace Go.Proofs.YtglcdgonbmdhoaaDoor
open Go.RowKit

def nm3 (a b c : Int) (sep : ByteArray) : ByteArray := digS a ++ sep ++ digS b ++ sep ++ digS c
theorem digS_size (n : Int) : (digS n).size = 1 := rfl
theorem adds (a b : ByteArray) (h : a.size + b.size ≤ 1000) : ∀ W : World, (Op.stringOp .add a b).run Tryd.prog W = .ok (.string (a ++ b)) W := fun W => run_string_add_sum W a b (by omega)
theorem adds4 (a b c : Int) (sep : ByteArray) (h : sep.size = 1) :
    (∀ W : World, (Op.stringOp .add (digS a) sep).run Tryd.prog W = .ok (.string (digS a ++ sep)) W) ∧
    (∀ W : World, (Op.stringOp .add (digS a ++ sep) (digS b)).run Tryd.prog W = .ok (.string (digS a ++ sep ++ digS b)) W) ∧
    (∀ W : World, (Op.stringOp .add (digS a ++ sep ++ digS b) sep).run Tryd.prog W = .ok (.string (digS a ++ sep ++ digS b ++ sep)) W) ∧
    (∀ W : World, (Op.stringOp .add (digS a ++ sep ++ digS b ++ sep) (digS c)).run Tryd.prog W = .ok (.string (nm3 a b c sep)) W) := by
  refine ⟨adds _ _ ?_, adds _ _ ?_, adds _ _ ?_, adds _ _ ?_⟩ <;> simp only [ByteArray.size_append, digS_size, h] <;> omega

set_option maxHeartbeats 1000000 in
theorem c_grText (x y z : Int) (w : World) (x1 : 0 ≤ x) (x2 : x ≤ 9) (y1 : 0 ≤ y) (y2 : y ≤ 9) (z1 : 0 ≤ z) (z2 : z ≤ 9) : Calls Tryd.prog 43 #[.agg #[.int .i64 x, .int .i64 y, .int .i64 z]] w fun e w' => e = .returned (.string (nm3 x y z ⟨#[120]⟩)) ∧ Below w.heap.size w w' := by
  obtain ⟨a1, a2, a3, a4⟩ := adds4 x y z ⟨#[120]⟩ rfl
  go_enter Tryd.func43, Tryd.ntmps43
  go_wp2
  refine wp_region_grow (by kernel_rfl) (by kernel_rfl) ?_
  repeat (go_big_quiet_step (first
    | (go_at_call 47; exact grow_of (c_l1Num _ _ (by assumption) (by assumption)))))
  refine wpQuiet_nil ?_
  intro _ hw'
  obtain ⟨u, hw''⟩ := hw'
  subst hw''
  have hb := wOf_below (w.alloc (.cells #[.int .i64 x, .int .i64 y, .int .i64 z] 30)) u
  generalize wOf (w.alloc (.cells #[.int .i64 x, .int .i64 y, .int .i64 z] 30)) u = w1 at hb ⊢
  go_wp2
  go_ret
  exact ⟨rfl, ((Below.refl _ _).alloc (Nat.le_refl _) _).trans (hb.mono (by simp))⟩

set_option maxHeartbeats 1000000 in
theorem c_joinNumbers (x y z : Int) (sep : ByteArray) (hs : sep.size = 1) (w : World) (x1 : 0 ≤ x) (x2 : x ≤ 9) (y1 : 0 ≤ y) (y2 : y ≤ 9) (z1 : 0 ≤ z) (z2 : z ≤ 9) : Calls Tryd.prog 27 #[.agg #[.int .i64 x, .int .i64 y, .int .i64 z], .string sep] w fun e w' => e = .returned (.string (nm3 x y z sep)) ∧ Below w.heap.size w w' := by
  obtain ⟨a1, a2, a3, a4⟩ := adds4 x y z sep hs
  clear hs
  go_enter Tryd.func27, Tryd.ntmps27
  go_wp2
  refine wp_region_grow (by kernel_rfl) (by kernel_rfl) ?_
  repeat (go_big_quiet_step (first
    | (go_at_call 51; exact grow_same (c_Itoa _ _ (by assumption) (by assumption)))))
  refine wpQuiet_nil ?_
  intro _ hw'
  obtain ⟨u, hw''⟩ := hw'
  subst hw''
  have hb := wOf_below (w.alloc (.cells #[.int .i64 x, .int .i64 y, .int .i64 z] 58)) u
  generalize wOf (w.alloc (.cells #[.int .i64 x, .int .i64 y, .int .i64 z] 58)) u = w1 at hb ⊢
  go_wp2
  go_ret
  exact ⟨rfl, ((Below.refl _ _).alloc (Nat.le_refl _) _).trans (hb.mono (by simp))⟩

set_option maxHeartbeats 1000000 in
theorem c_grName (x y z i : Int) (w : World) (hx1 : 1 ≤ x) (hx2 : x ≤ 8) (hy1 : 1 ≤ y) (hy2 : y ≤ 6) (hi1 : 0 ≤ i) (hi2 : i ≤ 1000) (hz : i / x / y ≤ 9) : Calls Tryd.prog 39 #[.agg #[.int .i64 x, .int .i64 y, .int .i64 z], .int .i64 i] w fun e w' => e = .returned (.string (nm3 (i % x) (i / x % y) (i / x / y) ⟨#[44]⟩)) ∧ Below w.heap.size w w' := by
  obtain ⟨hd1, hd2⟩ := div_box hx1 hi1
  obtain ⟨he1, he2⟩ := div_box (i := i / x) hy1 hd1
  obtain ⟨hm1, hm2⟩ := mod_box (i := i) hx1
  obtain ⟨hn1, hn2⟩ := mod_box (i := i / x) hy1
  obtain ⟨a1, a2, a3, a4⟩ := adds4 (i % x) (i / x % y) (i / x / y) ⟨#[44]⟩ rfl
  go_enter Tryd.func39, Tryd.ntmps39
  go_wp2
  refine wp_region_grow (by kernel_rfl) (by kernel_rfl) ?_
  repeat (go_big_quiet_step (first
    | (go_at_call 57; exact grow_of (c_grX _ _ _ _ _ hx1 hx2 hi1 hi2))
    | (go_at_call 58; exact grow_of (c_grY _ _ _ _ _ hx1 hx2 hy1 hy2 hi1 hi2))
    | (go_at_call 59; exact grow_of (c_grZ _ _ _ _ _ hx1 hx2 hy1 hy2 hi1 hi2))
    | (go_at_call 47; exact grow_of (c_l1Num _ _ (by omega) (by omega)))))
  refine wpQuiet_nil ?_
  intro _ hw'
  obtain ⟨u, hw''⟩ := hw'
  subst hw''
  have hb := wOf_below (w.alloc (.cells #[.int .i64 x, .int .i64 y, .int .i64 z] 30)) u
  generalize wOf (w.alloc (.cells #[.int .i64 x, .int .i64 y, .int .i64 z] 30)) u = w1 at hb ⊢
  go_wp2
  go_ret
  exact ⟨rfl, ((Below.refl _ _).alloc (Nat.le_refl _) _).trans (hb.mono (by simp))⟩

/-! ### The exported functions -/
def gtS (x y z : Int) : ByteArray := if goodB x y z then nm3 x y z ⟨#[120]⟩ else ByteArray.empty

set_option maxHeartbeats 1000000 in
theorem c_GridTextS (x y z : Int) (w : World) : Calls Tryd.prog 19 #[.agg #[.int .i64 x, .int .i64 y, .int .i64 z]] w fun e w' => e = .returned (.tuple #[.string (gtS x y z), .bool (goodB x y z)]) ∧ Below w.heap.size w w' := by
  cases hg : goodB x y z
  · rw [show gtS x y z = ByteArray.empty from if_neg (by rw [hg]; simp)]
    go_enter Tryd.func19, Tryd.ntmps19
    go_wp2_with (go_at_call 42; refine (c_grGood _ _ _ _).mono ?_; rintro e w1 ⟨rfl, hb1⟩)
    go_ret2
    exact ⟨rfl, ((Below.refl _ _).alloc (Nat.le_refl _) _).trans (hb1.mono (by simp))⟩
  · obtain ⟨x1, x2, y1, y2, z1, z2, _⟩ := good_box hg
    rw [show gtS x y z = nm3 x y z ⟨#[120]⟩ from if_pos hg]
    go_enter Tryd.func19, Tryd.ntmps19
    go_wp2_with fail
    refine (c_grGood _ _ _ _).mono ?_
    rintro e w1 ⟨rfl, hb1⟩
    obtain ⟨hc1, hf1⟩ := bcell hb1
    have s1 := hb1.size
    simp at s1
    go_wp2_with fail
    refine (c_grText _ _ _ _ (by omega) (by omega) (by omega) (by omega) (by omega) (by omega)).mono ?_
    rintro e w2 ⟨rfl, hb2⟩
    go_wp2
    go_ret2
    exact ⟨rfl, (((Below.refl _ _).alloc (Nat.le_refl _) _).trans (hb1.mono (by simp))).trans (hb2.mono (by omega))⟩

set_option maxHeartbeats 1000000 in
theorem c_GridText (x y z : Int) (w : World) : Calls Tryd.prog 20 #[.agg #[.int .i64 x, .int .i64 y, .int .i64 z]] w fun e w' => e = .returned (.tuple #[.string (gtS x y z), .bool (goodB x y z)]) ∧ Below w.heap.size w w' := by
  cases hg : goodB x y z
  · rw [show gtS x y z = ByteArray.empty from if_neg (by rw [hg]; simp)]
    go_enter Tryd.func20, Tryd.ntmps20
    go_wp2_with (go_at_call 44; refine (c_IsGrid _ _ _ _).mono ?_; rintro e w1 ⟨rfl, hb1⟩)
    go_ret2
    exact ⟨rfl, ((Below.refl _ _).alloc (Nat.le_refl _) _).trans (hb1.mono (by simp))⟩
  · obtain ⟨x1, x2, y1, y2, z1, z2, _⟩ := good_box hg
    rw [show gtS x y z = nm3 x y z ⟨#[120]⟩ from if_pos hg]
    go_enter Tryd.func20, Tryd.ntmps20
    go_wp2_with fail
    refine (c_IsGrid _ _ _ _).mono ?_
    rintro e w1 ⟨rfl, hb1⟩
    obtain ⟨hc1, hf1⟩ := bcell hb1
    have s1 := hb1.size
    simp at s1
    go_wp2_with fail
    refine (c_sizesOf _ _ _ _).mono ?_
    rintro e w2 ⟨rfl, hb2⟩
    have s2 := hb2.size
    go_wp2_with fail
    refine (c_joinNumbers _ _ _ _ rfl _ (by omega) (by omega) (by omega) (by omega) (by omega) (by omega)).mono ?_
    rintro e w3 ⟨rfl, hb3⟩
    go_wp2
    go_ret2
    exact ⟨rfl, ((((Below.refl _ _).alloc (Nat.le_refl _) _).trans (hb1.mono (by simp))).trans (hb2.mono (by omega))).trans (hb3.mono (by omega))⟩

def bnS (x y z i : Int) : ByteArray := if hasB x y z i then nm3 (i % x) (i / x % y) (i / x / y) ⟨#[44]⟩ else ByteArray.empty
theorem z_small {x y z i : Int} (h : hasB x y z i = true) : i / x / y ≤ 9 := by
  obtain ⟨hg, h1, h2⟩ := has_true h
  obtain ⟨x1, x2, y1, y2, z1, z2, p1, p2, q1, q2⟩ := good_box hg
  have : i / x / y < z := by
    rw [Int.ediv_ediv_of_nonneg (by omega)]
    exact Int.ediv_lt_of_lt_mul (by have := Int.mul_pos (a := x) (b := y) (by omega) (by omega); omega) (by rw [Int.mul_comm z]; exact h2)
  omega

set_option maxHeartbeats 1000000 in
theorem c_BlockNameS (x y z i : Int) (w : World) : Calls Tryd.prog 16 #[.agg #[.int .i64 x, .int .i64 y, .int .i64 z], .int .i64 i] w fun e w' => e = .returned (.tuple #[.string (bnS x y z i), .bool (hasB x y z i)]) ∧ Below w.heap.size w w' := by
  cases hg : hasB x y z i
  · rw [show bnS x y z i = ByteArray.empty from if_neg (by rw [hg]; simp)]
    go_enter Tryd.func16, Tryd.ntmps16
    go_wp2_with (go_at_call 38; refine (c_grHas _ _ _ _ _).mono ?_; rintro e w1 ⟨rfl, hb1⟩)
    go_ret2
    exact ⟨rfl, ((Below.refl _ _).alloc (Nat.le_refl _) _).trans (hb1.mono (by simp))⟩
  · have hz9 := z_small hg
    obtain ⟨hh, hi1, hi2⟩ := has_true hg
    obtain ⟨x1, x2, y1, y2, z1, z2, p1, p2, q1, q2⟩ := good_box hh
    have hi3 : i ≤ 1000 := by omega
    rw [show bnS x y z i = _ from if_pos hg]
    go_enter Tryd.func16, Tryd.ntmps16
    go_wp2_with fail
    refine (c_grHas _ _ _ _ _).mono ?_
    rintro e w1 ⟨rfl, hb1⟩
    obtain ⟨hc1, hf1⟩ := bcell hb1
    have s1 := hb1.size
    simp at s1
    go_wp2_with fail
    refine (c_grName _ _ _ _ _ x1 x2 y1 y2 hi1 hi3 hz9).mono ?_
    rintro e w2 ⟨rfl, hb2⟩
    go_wp2
    go_ret2
    exact ⟨rfl, (((Below.refl _ _).alloc (Nat.le_refl _) _).trans (hb1.mono (by simp))).trans (hb2.mono (by omega))⟩

set_option maxHeartbeats 1000000 in
theorem c_BlockName (x y z i : Int) (w : World) : Calls Tryd.prog 18 #[.agg #[.int .i64 x, .int .i64 y, .int .i64 z], .int .i64 i] w fun e w' => e = .returned (.tuple #[.string (bnS x y z i), .bool (hasB x y z i)]) ∧ Below w.heap.size w w' := by
  cases hg : hasB x y z i
  · rw [show bnS x y z i = ByteArray.empty from if_neg (by rw [hg]; simp)]
    go_enter Tryd.func18, Tryd.ntmps18
    go_wp2_with (go_at_call 40; refine (c_isBlock _ _ _ _ _).mono ?_; rintro e w1 ⟨rfl, hb1⟩)
    go_ret2
    exact ⟨rfl, ((Below.refl _ _).alloc (Nat.le_refl _) _).trans (hb1.mono (by simp))⟩
  · have hz9 := z_small hg
    obtain ⟨hh, hi1, hi2⟩ := has_true hg
    obtain ⟨x1, x2, y1, y2, z1, z2, p1, p2, q1, q2⟩ := good_box hh
    have hi3 : i ≤ 1000 := by omega
    obtain ⟨hd1, hd2⟩ := div_box x1 hi1
    obtain ⟨he1, he2⟩ := div_box (i := i / x) y1 hd1
    obtain ⟨hm1, hm2⟩ := mod_box (i := i) x1
    obtain ⟨hn1, hn2⟩ := mod_box (i := i / x) y1
    rw [show bnS x y z i = _ from if_pos hg]
    go_enter Tryd.func18, Tryd.ntmps18
    go_wp2_with fail
    refine (c_isBlock _ _ _ _ _).mono ?_
    rintro e w1 ⟨rfl, hb1⟩
    obtain ⟨hc1, hf1⟩ := bcell hb1
    have s1 := hb1.size
    simp at s1
    go_wp2_with fail
    refine (c_findPlace _ _ _ _ _ x1 x2 y1 y2 hi1 hi3).mono ?_
    rintro e w2 ⟨rfl, hb2⟩
    have s2 := hb2.size
    go_wp2_with fail
    refine (c_joinNumbers _ _ _ _ rfl _ (by omega) (by omega) (by omega) (by omega) (by omega) (by omega)).mono ?_
    rintro e w3 ⟨rfl, hb3⟩
    go_wp2
    go_ret2
    exact ⟨rfl, ((((Below.refl _ _).alloc (Nat.le_refl _) _).trans (hb1.mono (by simp))).trans (hb2.mono (by omega))).trans (hb3.mono (by omega))⟩
end Go.Proofs.YtglcdgonbmdhoaaDoor
