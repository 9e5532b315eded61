/-
  Contracts of chapter 1: PlaceOf and StepsBetween, in the program and in the model.
-/
import Derived.Test.YtpbkobkakedegaaC4
namespace Go.Proofs.Ytpbkobkakedegaa
open Go.RowKit

def plX (x y z i : Int) : Int := if hasB x y z i then i % x else 0
def plY (x y z i : Int) : Int := if hasB x y z i then i / x % y else 0
def plZ (x y z i : Int) : Int := if hasB x y z i then i / x / y else 0

set_option maxHeartbeats 1000000 in
theorem c_PlaceOfS (x y z i : Int) (w : World) : Calls Try.prog 20 #[.agg #[.int .i64 x, .int .i64 y, .int .i64 z], .int .i64 i] w fun e w' => e = .returned (.tuple #[.int .i64 (plX x y z i), .int .i64 (plY x y z i), .int .i64 (plZ x y z i), .bool (hasB x y z i)]) ∧ Below w.heap.size w w' := by
  unfold plX plY plZ
  cases hg : hasB x y z i
  · simp only [Bool.false_eq_true, if_false]
    go_enter Try.func20, Try.ntmps20
    go_wp2_with (go_at_call 43; refine (c_grHas _ _ _ _ _).mono ?_; rintro e w1 ⟨rfl, hb1⟩)
    refine bodyPost_ret (four_results rfl _ _ _) rfl ?_
    exact ⟨rfl, ((Below.refl _ _).alloc (Nat.le_refl _) _).trans (hb1.mono (by simp))⟩
  · simp only [if_true]
    obtain ⟨hh, hi1, hi2⟩ := has_true hg
    obtain ⟨x1, x2, y1, y2, z1, z2, p1, p2, q1, q2⟩ := good_box hh
    obtain ⟨hd1, hd2⟩ := div_box x1 hi1
    obtain ⟨he1, he2⟩ := div_box (i := i / x) y1 hd1
    obtain ⟨hm1, hm2⟩ := mod_box (i := i) x1
    obtain ⟨hn1, hn2⟩ := mod_box (i := i / x) y1
    have hi3 : i ≤ 1000 := by omega
    go_enter Try.func20, Try.ntmps20
    go_wp2_with fail
    refine (c_grHas _ _ _ _ _).mono ?_
    rintro e w1 ⟨rfl, hb1⟩
    obtain ⟨hc1, hf1⟩ := bcell hb1
    have s1 := hb1.size
    simp at s1
    have s3 : w.heap.size < w1.heap.size := by omega
    go_wp2
    refine wp_region_grow (by kernel_rfl) (by kernel_rfl) ?_
    repeat (go_big_quiet_step (first
      | (go_at_call 44; exact grow_of (c_grX _ _ _ _ _ x1 x2 hi1 hi3))
      | (go_at_call 45; exact grow_of (c_grY _ _ _ _ _ x1 x2 y1 y2 hi1 hi3))
      | (go_at_call 46; exact grow_of (c_grZ _ _ _ _ _ x1 x2 y1 y2 hi1 hi3))))
    refine wpQuiet_nil ?_
    intro _ hw'
    obtain ⟨u, hw''⟩ := hw'
    subst hw''
    have hb := wOf_below w1 u
    generalize wOf w1 u = w2 at hb ⊢
    go_wp2
    refine bodyPost_ret (four_results rfl _ _ _) rfl ?_
    exact ⟨rfl, (((Below.refl _ _).alloc (Nat.le_refl _) _).trans (hb1.mono (by simp))).trans (hb.mono (by omega))⟩

set_option maxHeartbeats 1000000 in
theorem c_PlaceOf (x y z i : Int) (w : World) : Calls Try.prog 21 #[.agg #[.int .i64 x, .int .i64 y, .int .i64 z], .int .i64 i] w fun e w' => e = .returned (.tuple #[.int .i64 (plX x y z i), .int .i64 (plY x y z i), .int .i64 (plZ x y z i), .bool (hasB x y z i)]) ∧ Below w.heap.size w w' := by
  unfold plX plY plZ
  cases hg : hasB x y z i
  · simp only [Bool.false_eq_true, if_false]
    go_enter Try.func21, Try.ntmps21
    go_wp2_with (go_at_call 47; refine (c_isBlock _ _ _ _ _).mono ?_; rintro e w1 ⟨rfl, hb1⟩)
    refine bodyPost_ret (four_results rfl _ _ _) rfl ?_
    exact ⟨rfl, ((Below.refl _ _).alloc (Nat.le_refl _) _).trans (hb1.mono (by simp))⟩
  · simp only [if_true]
    obtain ⟨hh, hi1, hi2⟩ := has_true hg
    obtain ⟨x1, x2, y1, y2, z1, z2, p1, p2, q1, q2⟩ := good_box hh
    obtain ⟨hd1, hd2⟩ := div_box x1 hi1
    obtain ⟨he1, he2⟩ := div_box (i := i / x) y1 hd1
    obtain ⟨hm1, hm2⟩ := mod_box (i := i) x1
    obtain ⟨hn1, hn2⟩ := mod_box (i := i / x) y1
    have hi3 : i ≤ 1000 := by omega
    go_enter Try.func21, Try.ntmps21
    go_wp2_with fail
    refine (c_isBlock _ _ _ _ _).mono ?_
    rintro e w1 ⟨rfl, hb1⟩
    obtain ⟨hc1, hf1⟩ := bcell hb1
    have s1 := hb1.size
    simp at s1
    have s3 : w.heap.size < w1.heap.size := by omega
    go_wp2_with fail
    refine (c_findPlace _ _ _ _ _ x1 x2 y1 y2 hi1 hi3).mono ?_
    rintro e w2 ⟨rfl, hb2⟩
    go_wp2
    go_quiet (fail)
    go_wp2
    refine bodyPost_ret (four_results rfl _ _ _) rfl ?_
    refine ⟨rfl, (((Below.refl _ _).alloc (Nat.le_refl _) _).trans (hb1.mono (by simp))).trans ((hb2.mono (by omega)).trans (below_draws ?_ _))⟩
    have s2 := hb2.size
    exact (Below.refl _ _).alloc (by omega) _

def stV (x y z i k : Int) : Int := if hasB x y z i && hasB x y z k then steps x y i k else 0

set_option maxHeartbeats 1000000 in
theorem c_StepsBetweenS (x y z i k : Int) (w : World) : Calls Try.prog 33 #[.agg #[.int .i64 x, .int .i64 y, .int .i64 z], .int .i64 i, .int .i64 k] w fun e w' => e = .returned (.tuple #[.int .i64 (stV x y z i k), .bool (hasB x y z i && hasB x y z k)]) ∧ Below w.heap.size w w' := by
  unfold stV
  cases hg : hasB x y z i
  · simp only [Bool.false_and, Bool.false_eq_true, if_false]
    go_enter Try.func33, Try.ntmps33
    go_wp2_with (go_at_call 43; refine (c_grHas _ _ _ _ _).mono ?_; rintro e w1 ⟨rfl, hb1⟩)
    go_ret2
    exact ⟨rfl, ((Below.refl _ _).alloc (Nat.le_refl _) _).trans (hb1.mono (by simp))⟩
  · cases hk : hasB x y z k
    · simp only [Bool.true_and, Bool.false_eq_true, if_false]
      go_enter Try.func33, Try.ntmps33
      go_wp2_with fail
      refine (c_grHas _ _ _ _ _).mono ?_
      rintro e w1 ⟨rfl, hb1⟩
      obtain ⟨hc1, hf1⟩ := bcell hb1
      have s1 := hb1.size
      simp at s1
      have s3 : w.heap.size < w1.heap.size := by omega
      go_wp2_with fail
      refine (c_grHas _ _ _ _ _).mono ?_
      rintro e w2 ⟨rfl, hb2⟩
      go_wp2
      go_ret2
      exact ⟨rfl, (((Below.refl _ _).alloc (Nat.le_refl _) _).trans (hb1.mono (by simp))).trans (hb2.mono (by omega))⟩
    · simp only [Bool.and_self, if_true]
      obtain ⟨hh, hi1, hi2⟩ := has_true hg
      obtain ⟨_, hk1, hk2⟩ := has_true hk
      obtain ⟨x1, x2, y1, y2, z1, z2, p1, p2, q1, q2⟩ := good_box hh
      go_enter Try.func33, Try.ntmps33
      go_wp2_with fail
      refine (c_grHas _ _ _ _ _).mono ?_
      rintro e w1 ⟨rfl, hb1⟩
      obtain ⟨hc1, hf1⟩ := bcell hb1
      have s1 := hb1.size
      simp at s1
      have s3 : w.heap.size < w1.heap.size := by omega
      go_wp2_with fail
      refine (c_grHas _ _ _ _ _).mono ?_
      rintro e w2 ⟨rfl, hb2⟩
      obtain ⟨hc2, hf2⟩ := bcell hb2
      have s2 := hb2.size
      have s4 : w.heap.size < w2.heap.size := by omega
      go_wp2_with fail
      refine (c_grSteps _ _ _ _ _ _ x1 x2 y1 y2 hi1 (by omega) hk1 (by omega)).mono ?_
      rintro e w3 ⟨rfl, hb3⟩
      go_wp2
      go_ret2
      exact ⟨rfl, ((((Below.refl _ _).alloc (Nat.le_refl _) _).trans (hb1.mono (by simp))).trans (hb2.mono (by omega))).trans (hb3.mono (by omega))⟩

set_option maxHeartbeats 1000000 in
theorem c_StepsBetween (x y z i k : Int) (w : World) : Calls Try.prog 34 #[.agg #[.int .i64 x, .int .i64 y, .int .i64 z], .int .i64 i, .int .i64 k] w fun e w' => e = .returned (.tuple #[.int .i64 (stV x y z i k), .bool (hasB x y z i && hasB x y z k)]) ∧ Below w.heap.size w w' := by
  unfold stV
  cases hg : hasB x y z i
  · simp only [Bool.false_and, Bool.false_eq_true, if_false]
    go_enter Try.func34, Try.ntmps34
    go_wp2_with (go_at_call 47; refine (c_isBlock _ _ _ _ _).mono ?_; rintro e w1 ⟨rfl, hb1⟩)
    go_ret2
    exact ⟨rfl, ((Below.refl _ _).alloc (Nat.le_refl _) _).trans (hb1.mono (by simp))⟩
  · cases hk : hasB x y z k
    · simp only [Bool.true_and, Bool.false_eq_true, if_false]
      go_enter Try.func34, Try.ntmps34
      go_wp2_with fail
      refine (c_isBlock _ _ _ _ _).mono ?_
      rintro e w1 ⟨rfl, hb1⟩
      obtain ⟨hc1, hf1⟩ := bcell hb1
      have s1 := hb1.size
      simp at s1
      have s3 : w.heap.size < w1.heap.size := by omega
      go_wp2_with fail
      refine (c_isBlock _ _ _ _ _).mono ?_
      rintro e w2 ⟨rfl, hb2⟩
      go_wp2
      go_ret2
      exact ⟨rfl, (((Below.refl _ _).alloc (Nat.le_refl _) _).trans (hb1.mono (by simp))).trans (hb2.mono (by omega))⟩
    · simp only [Bool.and_self, if_true]
      obtain ⟨hh, hi1, hi2⟩ := has_true hg
      obtain ⟨_, hk1, hk2⟩ := has_true hk
      obtain ⟨x1, x2, y1, y2, z1, z2, p1, p2, q1, q2⟩ := good_box hh
      obtain ⟨hd1, hd2⟩ := div_box x1 hi1
      obtain ⟨he1, he2⟩ := div_box (i := i / x) y1 hd1
      obtain ⟨hm1, hm2⟩ := mod_box (i := i) x1
      obtain ⟨hn1, hn2⟩ := mod_box (i := i / x) y1
      obtain ⟨hd3, hd4⟩ := div_box x1 hk1
      obtain ⟨he3, he4⟩ := div_box (i := k / x) y1 hd3
      obtain ⟨hm3, hm4⟩ := mod_box (i := k) x1
      obtain ⟨hn3, hn4⟩ := mod_box (i := k / x) y1
      have hi3 : i ≤ 1000 := by omega
      have hk3 : k ≤ 1000 := by omega
      go_enter Try.func34, Try.ntmps34
      go_wp2_with fail
      refine (c_isBlock _ _ _ _ _).mono ?_
      rintro e w1 ⟨rfl, hb1⟩
      obtain ⟨hc1, hf1⟩ := bcell hb1
      have s1 := hb1.size
      simp at s1
      have s3 : w.heap.size < w1.heap.size := by omega
      go_wp2_with fail
      refine (c_isBlock _ _ _ _ _).mono ?_
      rintro e w2 ⟨rfl, hb2⟩
      obtain ⟨hc2, hf2⟩ := bcell hb2
      have s2 := hb2.size
      have s4 : w.heap.size < w2.heap.size := by omega
      go_wp2_with fail
      refine wp_region_grow (by kernel_rfl) (by kernel_rfl) ?_
      repeat (go_big_quiet_step (first
        | (go_at_call 48; exact grow_of (c_findPlace _ _ _ _ _ x1 x2 y1 y2 (by assumption) (by assumption)))
        | (go_at_call 55; exact grow_of (c_countSteps _ _ _ _ _ _ _ (by omega) (by omega) (by omega) (by omega) (by omega) (by omega) (by omega) (by omega) (by omega) (by omega) (by omega) (by omega)))))
      refine wpQuiet_nil ?_
      intro _ hw'
      obtain ⟨u, hw''⟩ := hw'
      subst hw''
      have hb := wOf_below w2 u
      generalize wOf w2 u = w3 at hb ⊢
      go_wp2
      go_ret2
      exact ⟨rfl, ((((Below.refl _ _).alloc (Nat.le_refl _) _).trans (hb1.mono (by simp))).trans (hb2.mono (by omega))).trans (hb.mono (by omega))⟩
end Go.Proofs.Ytpbkobkakedegaa
