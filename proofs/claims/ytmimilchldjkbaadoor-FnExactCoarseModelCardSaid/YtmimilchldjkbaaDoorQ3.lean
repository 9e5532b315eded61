/-
  Contracts of chapter 3: rounded grades, coarse blocks, the piece of a block.
-/
import Derived.Test.YtmimilchldjkbaaDoorC5
import Derived.Test.YtmimilchldjkbaaDoorQ1
import Derived.Test.YtmimilchldjkbaaDoorGrow
namespace Go.Proofs.YtmimilchldjkbaaDoor
open Go.RowKit
set_option linter.unusedVariables false

def rgV (t m : Int) : Int := if t = 0 then 0 else (2 * m + t - 1) / (2 * t)
def rrV (t m r : Int) : Int := if pieB t m r then rgV t m else 0

set_option maxHeartbeats 1000000 in
theorem c_roundGrade (t m r : Int) (w : World) (a1 : 0 ≤ t) (a2 : t ≤ 10000) (a3 : 0 ≤ m) (a4 : m ≤ 100000000) : Calls Tryd.prog 76 #[.agg #[.int .i64 t, .int .i64 m, .int .i64 r]] w fun e w' => e = .returned (.int .i64 (rgV t m)) ∧ Below w.heap.size w w' := by
  unfold rgV
  by_cases h : t = 0
  · subst h
    simp only [if_true]
    go_enter Tryd.func76, Tryd.ntmps76
    go_wp2
    go_ret
    exact ⟨rfl, by go_grown⟩
  · have h1 : (t == 0) = false := by simpa using h
    have h2 : (2 * t) ≠ 0 := by omega
    obtain ⟨d1, d2⟩ := div_box (i := 2 * m + t - 1) (x := 2 * t) (by omega) (by omega)
    simp only [h, if_false]
    go_enter Tryd.func76, Tryd.ntmps76
    go_wp2
    go_ret
    exact ⟨rfl, by go_grown⟩

set_option maxHeartbeats 1000000 in
theorem c_sbRound (t m r : Int) (w : World) (a1 : 0 ≤ t) (a2 : t ≤ 10000) (a3 : 0 ≤ m) (a4 : m ≤ 100000000) : Calls Tryd.prog 71 #[.agg #[.int .i64 t, .int .i64 m, .int .i64 r]] w fun e w' => e = .returned (.int .i64 (rgV t m)) ∧ Below w.heap.size w w' := by
  unfold rgV
  by_cases h : t = 0
  · subst h
    simp only [if_true]
    go_enter Tryd.func71, Tryd.ntmps71
    go_wp2
    go_ret
    exact ⟨rfl, by go_grown⟩
  · have h1 : (t == 0) = false := by simpa using h
    have h2 : (2 * t) ≠ 0 := by omega
    obtain ⟨d1, d2⟩ := div_box (i := 2 * m + t - 1) (x := 2 * t) (by omega) (by omega)
    simp only [h, if_false]
    go_enter Tryd.func71, Tryd.ntmps71
    go_wp2
    go_ret
    exact ⟨rfl, by go_grown⟩

set_option maxHeartbeats 400000 in
theorem c_coarseGrid (x y z : Int) (w : World) (hx1 : 1 ≤ x) (hx2 : x ≤ 8) (hy1 : 1 ≤ y) (hy2 : y ≤ 6) : Calls Tryd.prog 73 #[.agg #[.int .i64 x, .int .i64 y, .int .i64 z]] w fun e w' => e = .returned (.agg #[.int .i64 ((x + 1) / 2), .int .i64 ((y + 1) / 2), .int .i64 z]) ∧ Below w.heap.size w w' := by
  obtain ⟨d1, d2⟩ := div_box (i := x + 1) (x := 2) (by omega) (by omega)
  obtain ⟨e1, e2⟩ := div_box (i := y + 1) (x := 2) (by omega) (by omega)
  go_enter Tryd.func73, Tryd.ntmps73
  go_wp2
  refine bodyPost_ret (v := .agg #[.int .i64 ((x + 1) / 2), .int .i64 ((y + 1) / 2), .int .i64 z]) (by simp [results, Tryd.results73, go_sem]) rfl ⟨rfl, ?_⟩
  go_grown

set_option maxHeartbeats 400000 in
theorem c_sbGrid (x y z : Int) (w : World) (hx1 : 1 ≤ x) (hx2 : x ≤ 8) (hy1 : 1 ≤ y) (hy2 : y ≤ 6) : Calls Tryd.prog 65 #[.agg #[.int .i64 x, .int .i64 y, .int .i64 z]] w fun e w' => e = .returned (.agg #[.int .i64 ((x + 1) / 2), .int .i64 ((y + 1) / 2), .int .i64 z]) ∧ Below w.heap.size w w' := by
  obtain ⟨d1, d2⟩ := div_box (i := x + 1) (x := 2) (by omega) (by omega)
  obtain ⟨e1, e2⟩ := div_box (i := y + 1) (x := 2) (by omega) (by omega)
  go_enter Tryd.func65, Tryd.ntmps65
  go_wp2
  refine bodyPost_ret (v := .agg #[.int .i64 ((x + 1) / 2), .int .i64 ((y + 1) / 2), .int .i64 z]) (by simp [results, Tryd.results65, go_sem]) rfl ⟨rfl, ?_⟩
  go_grown

theorem coarse_in {x y z i : Int} (h : hasB x y z i = true) : atB ((x + 1) / 2) ((y + 1) / 2) z (i % x / 2) (i / x % y / 2) (i / x / y) = true := by
  obtain ⟨hg, h0, h1⟩ := has_true h
  obtain ⟨x1, x2, y1, y2, z1, z2, p1, p2, q1, q2⟩ := good_box hg
  obtain ⟨m1, m2⟩ := mod_box (i := i) x1
  obtain ⟨n1, n2⟩ := mod_box (i := i / x) y1
  have d1 : i / x < z * y := Int.ediv_lt_of_lt_mul (by omega) (by rw [show z * y * x = x * y * z by rw [Int.mul_comm z y, Int.mul_assoc, Int.mul_comm z x, ← Int.mul_assoc, Int.mul_comm y x]]; exact h1)
  have d2 : i / x / y < z := Int.ediv_lt_of_lt_mul (by omega) d1
  have d3 : 0 ≤ i / x := Int.ediv_nonneg h0 (by omega)
  have d4 : 0 ≤ i / x / y := Int.ediv_nonneg d3 (by omega)
  obtain ⟨r1, r2⟩ := mul_box (a := (x + 1) / 2) (b := (y + 1) / 2) (m := x) (n := y) (by omega) (by omega) (by omega) (by omega)
  obtain ⟨s1, s2⟩ := mul_box (a := (x + 1) / 2 * ((y + 1) / 2)) (b := z) (m := x * y) (n := z) r1 r2 (by omega) (by omega)
  unfold atB inB
  rw [good_mk (by omega)]
  simp only [Bool.true_and, decide_eq_true_eq]
  omega
def coV (x y z i : Int) : Int := if hasB x y z i then atW ((x + 1) / 2) ((y + 1) / 2) z (i % x / 2) (i / x % y / 2) (i / x / y) else 0

set_option maxHeartbeats 1000000 in
theorem c_CoarseBlock (x y z i : Int) (w : World) : Calls Tryd.prog 111 #[.agg #[.int .i64 x, .int .i64 y, .int .i64 z], .int .i64 i] w fun e w' => e = .returned (.tuple #[.int .i64 (coV x y z i), .bool (hasB x y z i)]) ∧ Below w.heap.size w w' := by
  unfold coV
  cases hg : hasB x y z i
  · have HG := Lib.hid hg
    simp only [Bool.false_eq_true, if_false]
    clear hg
    go_enter Tryd.func111, Tryd.ntmps111
    go_wp2_with fail
    refine (c_PlaceOf _ _ _ _ _).mono ?_
    rintro e w1 ⟨rfl, hb1⟩
    rw [HG.out]
    go_wp2
    go_ret2
    exact ⟨rfl, ((Below.refl _ _).alloc (Nat.le_refl _) _).trans (hb1.mono (by simp))⟩
  · have HG := Lib.hid hg
    simp only [if_true]
    obtain ⟨hh, hi1, hi2⟩ := has_true hg
    obtain ⟨x1, x2, y1, y2, z1, z2, p1, p2, q1, q2⟩ := good_box hh
    obtain ⟨hd1, hd2⟩ := div_box x1 hi1
    obtain ⟨he1, he2⟩ := div_box (i := i / x) y1 hd1
    obtain ⟨hm1, hm2⟩ := mod_box (i := i) x1
    obtain ⟨hn1, hn2⟩ := mod_box (i := i / x) y1
    obtain ⟨hf1, hf2⟩ := div_box (i := i % x) (x := 2) (by omega) hm1
    obtain ⟨hf3, hf4⟩ := div_box (i := i / x % y) (x := 2) (by omega) hn1
    have HA := Lib.hid (coarse_in hg)
    have e1 : Hid (plX x y z i = i % x) := if_pos hg
    have e2 : Hid (plY x y z i = i / x % y) := if_pos hg
    have e3 : Hid (plZ x y z i = i / x / y) := if_pos hg
    clear hg hh
    go_enter Tryd.func111, Tryd.ntmps111
    go_wp2_with fail
    refine (c_PlaceOf _ _ _ _ _).mono ?_
    rintro e w1 ⟨rfl, hb1⟩
    rw [HG.out, e1.out, e2.out, e3.out]
    obtain ⟨hc1, hf1⟩ := bcell hb1
    have s1 := hb1.size
    simp at s1 hc1 hf1
    have p10 : w.heap.size < w1.heap.size := by omega
    have HB1 : Hid (Below w.heap.size w w1) := ((Below.refl _ _).alloc (Nat.le_refl _) _).trans (hb1.mono (by simp))
    clear hb1
    go_wp2_with fail
    refine (c_coarseGrid _ _ _ _ x1 x2 y1 y2).mono ?_
    rintro e w2 ⟨rfl, hb2⟩
    have s2 := hb2.size
    have HB2 : Hid (Below w.heap.size w w2) := HB1.out.trans (hb2.mono (by omega))
    clear hb2
    go_wp2_with fail
    refine (c_BlockAt _ _ _ _ _ _ _).mono ?_
    rintro e w3 ⟨rfl, hb3⟩
    rw [HA.out]
    have HB3 : Hid (Below w.heap.size w w3) := HB2.out.trans (hb3.mono (by omega))
    clear hb3
    go_wp2
    go_ret2
    exact ⟨rfl, HB3.out⟩

set_option maxHeartbeats 1000000 in
theorem c_sbCoarse (x y z i : Int) (w : World) (hg : hasB x y z i = true) : Calls Tryd.prog 67 #[.agg #[.int .i64 x, .int .i64 y, .int .i64 z], .int .i64 i] w fun e w' => e = .returned (.int .i64 (coV x y z i)) ∧ Below w.heap.size w w' := by
  have HV : Hid (atV ((x + 1) / 2) ((y + 1) / 2) z (i % x / 2) (i / x % y / 2) (i / x / y) = coV x y z i) := by
    unfold coV; rw [if_pos hg]
    have h := coarse_in hg
    unfold atW; rw [if_pos h]
    unfold atV; rw [if_pos (by unfold atB at h; simp only [Bool.and_eq_true] at h; exact h.2)]
    exact rfl
  obtain ⟨hh, hi1, hi2⟩ := has_true hg
  obtain ⟨x1, x2, y1, y2, z1, z2, p1, p2, q1, q2⟩ := good_box hh
  obtain ⟨hd1, hd2⟩ := div_box x1 hi1
  obtain ⟨he1, he2⟩ := div_box (i := i / x) y1 hd1
  obtain ⟨hm1, hm2⟩ := mod_box (i := i) x1
  obtain ⟨hn1, hn2⟩ := mod_box (i := i / x) y1
  obtain ⟨hf1, hf2⟩ := div_box (i := i % x) (x := 2) (by omega) hm1
  obtain ⟨hf3, hf4⟩ := div_box (i := i / x % y) (x := 2) (by omega) hn1
  have hi3 : i ≤ 1000 := by omega
  have g1 : 1 ≤ (x + 1) / 2 := by omega
  have g2 : (x + 1) / 2 ≤ 8 := by omega
  have g3 : 1 ≤ (y + 1) / 2 := by omega
  have g4 : (y + 1) / 2 ≤ 6 := by omega
  clear hg hh
  go_enter Tryd.func67, Tryd.ntmps67
  go_wp2
  refine wp_region_grow (by kernel_rfl) (by kernel_rfl) ?_
  repeat (go_big_quiet_step (first
    | (go_at_call 65; exact grow_of (c_sbGrid _ _ _ _ x1 x2 y1 y2))
    | (go_at_call 51; exact grow_of (c_grX _ _ _ _ _ x1 x2 hi1 hi3))
    | (go_at_call 108; exact grow_of (c_grY _ _ _ _ _ x1 x2 y1 y2 hi1 hi3))
    | (go_at_call 109; exact grow_of (c_grZ _ _ _ _ _ x1 x2 y1 y2 hi1 hi3))
    | (go_at_call 107; exact grow_of (c_grAt _ _ _ _ _ _ _ g1 g2 g3 g4 z1 z2))))
  refine wpQuiet_nil ?_
  intro _ hw'
  obtain ⟨u, hw''⟩ := hw'
  subst hw''
  have hb := wOf_below (w.alloc (.cells #[.int .i64 x, .int .i64 y, .int .i64 z] 30)) u
  generalize wOf (w.alloc (.cells #[.int .i64 x, .int .i64 y, .int .i64 z] 30)) u = w1 at hb ⊢
  go_wp2
  go_ret
  exact ⟨ret_int HV.out, ((Below.refl _ _).alloc (Nat.le_refl _) _).trans (hb.mono (by simp))⟩

end Go.Proofs.YtmimilchldjkbaaDoor
