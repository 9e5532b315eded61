/-
  Contracts of chapter 1: PlaceOf and StepsBetween, in the program and in the model.
-/
import Derived.Test.YtmimilchldjkbaaDoorC4
namespace Go.Proofs.YtmimilchldjkbaaDoor
open Go.RowKit

def plX (x y z i : Int) : Int := if hasB x y z i then i % x else 0
def plY (x y z i : Int) : Int := if hasB x y z i then i / x % y else 0
def plZ (x y z i : Int) : Int := if hasB x y z i then i / x / y else 0

set_option maxHeartbeats 1000000 in
theorem c_PlaceOf (x y z i : Int) (w : World) : Calls Tryd.prog 138 #[.agg #[.int .i64 x, .int .i64 y, .int .i64 z], .int .i64 i] w fun e w' => e = .returned (.tuple #[.int .i64 (plX x y z i), .int .i64 (plY x y z i), .int .i64 (plZ x y z i), .bool (hasB x y z i)]) ∧ Below w.heap.size w w' := by
  unfold plX plY plZ
  cases hg : hasB x y z i
  · simp only [Bool.false_eq_true, if_false]
    go_enter Tryd.func138, Tryd.ntmps138
    go_wp2_with (go_at_call 158; refine (c_isBlock _ _ _ _ _).mono ?_; rintro e w1 ⟨rfl, hb1⟩)
    refine bodyPost_ret (four_results rfl _ _ _) rfl ?_
    exact ⟨rfl, ((Below.refl _ _).alloc (Nat.le_refl _) _).trans (hb1.mono (by simp))⟩
  · simp only [if_true]
    obtain ⟨hh, hi1, hi2⟩ := has_true hg
    obtain ⟨x1, x2, y1, y2, z1, z2, p1, p2, q1, q2⟩ := good_box hh
    obtain ⟨hd1, hd2⟩ := div_box x1 hi1
    obtain ⟨he1, he2⟩ := div_box (i := i / x) y1 hd1
    obtain ⟨hm1, hm2⟩ := mod_box (i := i) x1
    obtain ⟨hn1, hn2⟩ := mod_box (i := i / x) y1
    have hi3 : i ≤ 1000 := by omega
    go_enter Tryd.func138, Tryd.ntmps138
    go_wp2_with fail
    refine (c_isBlock _ _ _ _ _).mono ?_
    rintro e w1 ⟨rfl, hb1⟩
    obtain ⟨hc1, hf1⟩ := bcell hb1
    have s1 := hb1.size
    simp at s1
    have s3 : w.heap.size < w1.heap.size := by omega
    go_wp2_with fail
    refine (c_findPlace _ _ _ _ _ x1 x2 y1 y2 hi1 hi3).mono ?_
    rintro e w2 ⟨rfl, hb2⟩
    go_wp2
    go_quiet (fail)
    go_wp2
    refine bodyPost_ret (four_results rfl _ _ _) rfl ?_
    refine ⟨rfl, (((Below.refl _ _).alloc (Nat.le_refl _) _).trans (hb1.mono (by simp))).trans ((hb2.mono (by omega)).trans (below_draws ?_ _))⟩
    have s2 := hb2.size
    exact (Below.refl _ _).alloc (by omega) _

def stV (x y z i k : Int) : Int := if hasB x y z i && hasB x y z k then steps x y i k else 0

end Go.Proofs.YtmimilchldjkbaaDoor
