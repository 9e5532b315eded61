/-
  Contracts of chapter 3: rounded grades, coarse blocks, the piece of a block.
-/
import Derived.Test.YtglcdgonbmdhoabC5
import Derived.Test.YtglcdgonbmdhoabQ1
import Derived.Test.YtglcdgonbmdhoabGrow
namespace Go.Proofs.Ytglcdgonbmdhoab
open Go.RowKit
set_option linter.unusedVariables false

def rgV (t m : Int) : Int := if t = 0 then 0 else (2 * m + t - 1) / (2 * t)
def rrV (t m r : Int) : Int := if pieB t m r then rgV t m else 0

set_option maxHeartbeats 1000000 in
theorem c_roundGrade (t m r : Int) (w : World) (a1 : 0 ≤ t) (a2 : t ≤ 10000) (a3 : 0 ≤ m) (a4 : m ≤ 100000000) : Calls Try.prog 53 #[.agg #[.int .i64 t, .int .i64 m, .int .i64 r]] w fun e w' => e = .returned (.int .i64 (rgV t m)) ∧ Below w.heap.size w w' := by
  unfold rgV
  by_cases h : t = 0
  · subst h
    simp only [if_true]
    go_enter Try.func53, Try.ntmps53
    go_wp2
    go_ret
    exact ⟨rfl, by go_grown⟩
  · have h1 : (t == 0) = false := by simpa using h
    have h2 : (2 * t) ≠ 0 := by omega
    obtain ⟨d1, d2⟩ := div_box (i := 2 * m + t - 1) (x := 2 * t) (by omega) (by omega)
    simp only [h, if_false]
    go_enter Try.func53, Try.ntmps53
    go_wp2
    go_ret
    exact ⟨rfl, by go_grown⟩

set_option maxHeartbeats 1000000 in
theorem c_sbRound (t m r : Int) (w : World) (a1 : 0 ≤ t) (a2 : t ≤ 10000) (a3 : 0 ≤ m) (a4 : m ≤ 100000000) : Calls Try.prog 52 #[.agg #[.int .i64 t, .int .i64 m, .int .i64 r]] w fun e w' => e = .returned (.int .i64 (rgV t m)) ∧ Below w.heap.size w w' := by
  unfold rgV
  by_cases h : t = 0
  · subst h
    simp only [if_true]
    go_enter Try.func52, Try.ntmps52
    go_wp2
    go_ret
    exact ⟨rfl, by go_grown⟩
  · have h1 : (t == 0) = false := by simpa using h
    have h2 : (2 * t) ≠ 0 := by omega
    obtain ⟨d1, d2⟩ := div_box (i := 2 * m + t - 1) (x := 2 * t) (by omega) (by omega)
    simp only [h, if_false]
    go_enter Try.func52, Try.ntmps52
    go_wp2
    go_ret
    exact ⟨rfl, by go_grown⟩

set_option maxHeartbeats 1000000 in
theorem c_RoundedGrade (t m r : Int) (w : World) : Calls Try.prog 23 #[.agg #[.int .i64 t, .int .i64 m, .int .i64 r]] w fun e w' => e = .returned (.tuple #[.int .i64 (rrV t m r), .bool (pieB t m r)]) ∧ Below w.heap.size w w' := by
  unfold rrV
  cases hp : pieB t m r
  · simp only [Bool.false_eq_true, if_false]
    go_enter Try.func23, Try.ntmps23
    go_wp2_with (go_at_call 13; refine (c_IsPiece _ _ _ _).mono ?_; rintro e w1 ⟨rfl, hb1⟩)
    go_ret2
    exact ⟨rfl, ((Below.refl _ _).alloc (Nat.le_refl _) _).trans (hb1.mono (by simp))⟩
  · have HP := Lib.hid hp
    obtain ⟨a1, a2, a3, a4, a5, a6⟩ := pie_true hp
    simp only [if_true]
    clear hp
    go_enter Try.func23, Try.ntmps23
    go_wp2_with fail
    refine (c_IsPiece _ _ _ _).mono ?_
    rintro e w1 ⟨rfl, hb1⟩
    rw [HP.out]
    obtain ⟨hc1, hf1⟩ := bcell hb1
    have s1 := hb1.size
    simp at s1 hc1 hf1
    have p10 : w.heap.size < w1.heap.size := by omega
    have HB1 : Hid (Below w.heap.size w w1) := ((Below.refl _ _).alloc (Nat.le_refl _) _).trans (hb1.mono (by simp))
    clear hb1
    go_wp2_with fail
    refine (c_roundGrade _ _ _ _ a1 a2 a3 (by omega)).mono ?_
    rintro e w2 ⟨rfl, hb2⟩
    have HB2 : Hid (Below w.heap.size w w2) := HB1.out.trans (hb2.mono (by omega))
    clear hb2
    go_wp2
    go_ret2
    exact ⟨rfl, HB2.out⟩

set_option maxHeartbeats 1000000 in
theorem c_RoundedGradeS (t m r : Int) (w : World) : Calls Try.prog 22 #[.agg #[.int .i64 t, .int .i64 m, .int .i64 r]] w fun e w' => e = .returned (.tuple #[.int .i64 (rrV t m r), .bool (pieB t m r)]) ∧ Below w.heap.size w w' := by
  unfold rrV
  cases hp : pieB t m r
  · simp only [Bool.false_eq_true, if_false]
    go_enter Try.func22, Try.ntmps22
    go_wp2_with (go_at_call 42; refine (c_sbPiece _ _ _ _).mono ?_; rintro e w1 ⟨rfl, hb1⟩)
    go_ret2
    exact ⟨rfl, ((Below.refl _ _).alloc (Nat.le_refl _) _).trans (hb1.mono (by simp))⟩
  · have HP := Lib.hid hp
    obtain ⟨a1, a2, a3, a4, a5, a6⟩ := pie_true hp
    simp only [if_true]
    clear hp
    go_enter Try.func22, Try.ntmps22
    go_wp2_with fail
    refine (c_sbPiece _ _ _ _).mono ?_
    rintro e w1 ⟨rfl, hb1⟩
    rw [HP.out]
    obtain ⟨hc1, hf1⟩ := bcell hb1
    have s1 := hb1.size
    simp at s1 hc1 hf1
    have p10 : w.heap.size < w1.heap.size := by omega
    have HB1 : Hid (Below w.heap.size w w1) := ((Below.refl _ _).alloc (Nat.le_refl _) _).trans (hb1.mono (by simp))
    clear hb1
    go_wp2_with fail
    refine (c_sbRound _ _ _ _ a1 a2 a3 (by omega)).mono ?_
    rintro e w2 ⟨rfl, hb2⟩
    have HB2 : Hid (Below w.heap.size w w2) := HB1.out.trans (hb2.mono (by omega))
    clear hb2
    go_wp2
    go_ret2
    exact ⟨rfl, HB2.out⟩

set_option maxHeartbeats 400000 in
theorem c_coarseGrid (x y z : Int) (w : World) (hx1 : 1 ≤ x) (hx2 : x ≤ 8) (hy1 : 1 ≤ y) (hy2 : y ≤ 6) : Calls Try.prog 60 #[.agg #[.int .i64 x, .int .i64 y, .int .i64 z]] w fun e w' => e = .returned (.agg #[.int .i64 ((x + 1) / 2), .int .i64 ((y + 1) / 2), .int .i64 z]) ∧ Below w.heap.size w w' := by
  obtain ⟨d1, d2⟩ := div_box (i := x + 1) (x := 2) (by omega) (by omega)
  obtain ⟨e1, e2⟩ := div_box (i := y + 1) (x := 2) (by omega) (by omega)
  go_enter Try.func60, Try.ntmps60
  go_wp2
  refine bodyPost_ret (v := .agg #[.int .i64 ((x + 1) / 2), .int .i64 ((y + 1) / 2), .int .i64 z]) (by simp [results, Try.results60, go_sem]) rfl ⟨rfl, ?_⟩
  go_grown

set_option maxHeartbeats 400000 in
theorem c_sbGrid (x y z : Int) (w : World) (hx1 : 1 ≤ x) (hx2 : x ≤ 8) (hy1 : 1 ≤ y) (hy2 : y ≤ 6) : Calls Try.prog 81 #[.agg #[.int .i64 x, .int .i64 y, .int .i64 z]] w fun e w' => e = .returned (.agg #[.int .i64 ((x + 1) / 2), .int .i64 ((y + 1) / 2), .int .i64 z]) ∧ Below w.heap.size w w' := by
  obtain ⟨d1, d2⟩ := div_box (i := x + 1) (x := 2) (by omega) (by omega)
  obtain ⟨e1, e2⟩ := div_box (i := y + 1) (x := 2) (by omega) (by omega)
  go_enter Try.func81, Try.ntmps81
  go_wp2
  refine bodyPost_ret (v := .agg #[.int .i64 ((x + 1) / 2), .int .i64 ((y + 1) / 2), .int .i64 z]) (by simp [results, Try.results81, go_sem]) rfl ⟨rfl, ?_⟩
  go_grown

theorem coarse_in {x y z i : Int} (h : hasB x y z i = true) : atB ((x + 1) / 2) ((y + 1) / 2) z (i % x / 2) (i / x % y / 2) (i / x / y) = true := by
  obtain ⟨hg, h0, h1⟩ := has_true h
  obtain ⟨x1, x2, y1, y2, z1, z2, p1, p2, q1, q2⟩ := good_box hg
  obtain ⟨m1, m2⟩ := mod_box (i := i) x1
  obtain ⟨n1, n2⟩ := mod_box (i := i / x) y1
  have d1 : i / x < z * y := Int.ediv_lt_of_lt_mul (by omega) (by rw [show z * y * x = x * y * z by rw [Int.mul_comm z y, Int.mul_assoc, Int.mul_comm z x, ← Int.mul_assoc, Int.mul_comm y x]]; exact h1)
  have d2 : i / x / y < z := Int.ediv_lt_of_lt_mul (by omega) d1
  have d3 : 0 ≤ i / x := Int.ediv_nonneg h0 (by omega)
  have d4 : 0 ≤ i / x / y := Int.ediv_nonneg d3 (by omega)
  obtain ⟨r1, r2⟩ := mul_box (a := (x + 1) / 2) (b := (y + 1) / 2) (m := x) (n := y) (by omega) (by omega) (by omega) (by omega)
  obtain ⟨s1, s2⟩ := mul_box (a := (x + 1) / 2 * ((y + 1) / 2)) (b := z) (m := x * y) (n := z) r1 r2 (by omega) (by omega)
  unfold atB inB
  rw [good_mk (by omega)]
  simp only [Bool.true_and, decide_eq_true_eq]
  omega
def coV (x y z i : Int) : Int := if hasB x y z i then atW ((x + 1) / 2) ((y + 1) / 2) z (i % x / 2) (i / x % y / 2) (i / x / y) else 0

set_option maxHeartbeats 1000000 in
theorem c_CoarseBlock (x y z i : Int) (w : World) : Calls Try.prog 26 #[.agg #[.int .i64 x, .int .i64 y, .int .i64 z], .int .i64 i] w fun e w' => e = .returned (.tuple #[.int .i64 (coV x y z i), .bool (hasB x y z i)]) ∧ Below w.heap.size w w' := by
  unfold coV
  cases hg : hasB x y z i
  · have HG := Lib.hid hg
    simp only [Bool.false_eq_true, if_false]
    clear hg
    go_enter Try.func26, Try.ntmps26
    go_wp2_with fail
    refine (c_PlaceOf _ _ _ _ _).mono ?_
    rintro e w1 ⟨rfl, hb1⟩
    rw [HG.out]
    go_wp2
    go_ret2
    exact ⟨rfl, ((Below.refl _ _).alloc (Nat.le_refl _) _).trans (hb1.mono (by simp))⟩
  · have HG := Lib.hid hg
    simp only [if_true]
    obtain ⟨hh, hi1, hi2⟩ := has_true hg
    obtain ⟨x1, x2, y1, y2, z1, z2, p1, p2, q1, q2⟩ := good_box hh
    obtain ⟨hd1, hd2⟩ := div_box x1 hi1
    obtain ⟨he1, he2⟩ := div_box (i := i / x) y1 hd1
    obtain ⟨hm1, hm2⟩ := mod_box (i := i) x1
    obtain ⟨hn1, hn2⟩ := mod_box (i := i / x) y1
    obtain ⟨hf1, hf2⟩ := div_box (i := i % x) (x := 2) (by omega) hm1
    obtain ⟨hf3, hf4⟩ := div_box (i := i / x % y) (x := 2) (by omega) hn1
    have HA := Lib.hid (coarse_in hg)
    have e1 : Hid (plX x y z i = i % x) := if_pos hg
    have e2 : Hid (plY x y z i = i / x % y) := if_pos hg
    have e3 : Hid (plZ x y z i = i / x / y) := if_pos hg
    clear hg hh
    go_enter Try.func26, Try.ntmps26
    go_wp2_with fail
    refine (c_PlaceOf _ _ _ _ _).mono ?_
    rintro e w1 ⟨rfl, hb1⟩
    rw [HG.out, e1.out, e2.out, e3.out]
    obtain ⟨hc1, hf1⟩ := bcell hb1
    have s1 := hb1.size
    simp at s1 hc1 hf1
    have p10 : w.heap.size < w1.heap.size := by omega
    have HB1 : Hid (Below w.heap.size w w1) := ((Below.refl _ _).alloc (Nat.le_refl _) _).trans (hb1.mono (by simp))
    clear hb1
    go_wp2_with fail
    refine (c_coarseGrid _ _ _ _ x1 x2 y1 y2).mono ?_
    rintro e w2 ⟨rfl, hb2⟩
    have s2 := hb2.size
    have HB2 : Hid (Below w.heap.size w w2) := HB1.out.trans (hb2.mono (by omega))
    clear hb2
    go_wp2_with fail
    refine (c_BlockAt _ _ _ _ _ _ _).mono ?_
    rintro e w3 ⟨rfl, hb3⟩
    rw [HA.out]
    have HB3 : Hid (Below w.heap.size w w3) := HB2.out.trans (hb3.mono (by omega))
    clear hb3
    go_wp2
    go_ret2
    exact ⟨rfl, HB3.out⟩

set_option maxHeartbeats 1000000 in
theorem c_sbCoarse (x y z i : Int) (w : World) (hg : hasB x y z i = true) : Calls Try.prog 57 #[.agg #[.int .i64 x, .int .i64 y, .int .i64 z], .int .i64 i] w fun e w' => e = .returned (.int .i64 (coV x y z i)) ∧ Below w.heap.size w w' := by
  have HV : Hid (atV ((x + 1) / 2) ((y + 1) / 2) z (i % x / 2) (i / x % y / 2) (i / x / y) = coV x y z i) := by
    unfold coV; rw [if_pos hg]
    have h := coarse_in hg
    unfold atW; rw [if_pos h]
    unfold atV; rw [if_pos (by unfold atB at h; simp only [Bool.and_eq_true] at h; exact h.2)]
    exact rfl
  obtain ⟨hh, hi1, hi2⟩ := has_true hg
  obtain ⟨x1, x2, y1, y2, z1, z2, p1, p2, q1, q2⟩ := good_box hh
  obtain ⟨hd1, hd2⟩ := div_box x1 hi1
  obtain ⟨he1, he2⟩ := div_box (i := i / x) y1 hd1
  obtain ⟨hm1, hm2⟩ := mod_box (i := i) x1
  obtain ⟨hn1, hn2⟩ := mod_box (i := i / x) y1
  obtain ⟨hf1, hf2⟩ := div_box (i := i % x) (x := 2) (by omega) hm1
  obtain ⟨hf3, hf4⟩ := div_box (i := i / x % y) (x := 2) (by omega) hn1
  have hi3 : i ≤ 1000 := by omega
  have g1 : 1 ≤ (x + 1) / 2 := by omega
  have g2 : (x + 1) / 2 ≤ 8 := by omega
  have g3 : 1 ≤ (y + 1) / 2 := by omega
  have g4 : (y + 1) / 2 ≤ 6 := by omega
  clear hg hh
  go_enter Try.func57, Try.ntmps57
  go_wp2
  refine wp_region_grow (by kernel_rfl) (by kernel_rfl) ?_
  repeat (go_big_quiet_step (first
    | (go_at_call 81; exact grow_of (c_sbGrid _ _ _ _ x1 x2 y1 y2))
    | (go_at_call 82; exact grow_of (c_grX _ _ _ _ _ x1 x2 hi1 hi3))
    | (go_at_call 83; exact grow_of (c_grY _ _ _ _ _ x1 x2 y1 y2 hi1 hi3))
    | (go_at_call 84; exact grow_of (c_grZ _ _ _ _ _ x1 x2 y1 y2 hi1 hi3))
    | (go_at_call 80; exact grow_of (c_grAt _ _ _ _ _ _ _ g1 g2 g3 g4 z1 z2))))
  refine wpQuiet_nil ?_
  intro _ hw'
  obtain ⟨u, hw''⟩ := hw'
  subst hw''
  have hb := wOf_below (w.alloc (.cells #[.int .i64 x, .int .i64 y, .int .i64 z] 36)) u
  generalize wOf (w.alloc (.cells #[.int .i64 x, .int .i64 y, .int .i64 z] 36)) u = w1 at hb ⊢
  go_wp2
  go_ret
  exact ⟨ret_int HV.out, ((Below.refl _ _).alloc (Nat.le_refl _) _).trans (hb.mono (by simp))⟩

set_option maxHeartbeats 1000000 in
theorem c_CoarseBlockS (x y z i : Int) (w : World) : Calls Try.prog 24 #[.agg #[.int .i64 x, .int .i64 y, .int .i64 z], .int .i64 i] w fun e w' => e = .returned (.tuple #[.int .i64 (coV x y z i), .bool (hasB x y z i)]) ∧ Below w.heap.size w w' := by
  cases hg : goodB x y z
  · have HG := Lib.hid hg
    have hh : hasB x y z i = false := by unfold hasB; rw [hg]; rfl
    rw [show coV x y z i = 0 by unfold coV; rw [hh]; rfl, hh]
    clear hg hh
    go_enter Try.func24, Try.ntmps24
    go_wp2_with fail
    refine (c_grGood _ _ _ _).mono ?_
    rintro e w1 ⟨rfl, hb1⟩
    rw [HG.out]
    go_wp2
    go_ret2
    exact ⟨rfl, ((Below.refl _ _).alloc (Nat.le_refl _) _).trans (hb1.mono (by simp))⟩
  · have HG := Lib.hid hg
    obtain ⟨x1, x2, y1, y2, z1, z2, p1, p2, q1, q2⟩ := good_box hg
    have HH : Hid (hasB x y z i = (decide (0 ≤ i) && decide (i ≤ x * y * z - 1))) := by
      unfold hasB; rw [hg, Bool.true_and, ← Bool.decide_and]; exact decide_eq_decide.2 (by omega)
    have HH2 : Hid (hasB x y z i = decide (0 ≤ i ∧ i ≤ x * y * z - 1)) := by rw [HH.out, ← Bool.decide_and]; exact rfl
    clear hg
    go_enter Try.func24, Try.ntmps24
    go_wp2_with fail
    refine (c_grGood _ _ _ _).mono ?_
    rintro e w1 ⟨rfl, hb1⟩
    rw [HG.out]
    obtain ⟨hc1, hf1⟩ := bcell hb1
    have s1 := hb1.size
    simp at s1 hc1 hf1
    have p10 : w.heap.size < w1.heap.size := by omega
    have HB1 : Hid (Below w.heap.size w w1) := ((Below.refl _ _).alloc (Nat.le_refl _) _).trans (hb1.mono (by simp))
    clear hb1
    go_wp2_with fail
    refine (c_grCount _ _ _ _ (by omega) x2 (by omega) y2 (by omega) z2).mono ?_
    rintro e w2 ⟨rfl, hb2⟩
    obtain ⟨hc2, hf2⟩ := bcell hb2
    have s2 := hb2.size
    have p20 : w.heap.size < w2.heap.size := by omega
    have HB2 : Hid (Below w.heap.size w w2) := HB1.out.trans (hb2.mono (by omega))
    clear hb2
    go_wp2_with fail
    refine (c_l1In _ _ _ _).mono ?_
    rintro e w3 ⟨rfl, rfl⟩
    rw [← HH2.out]
    cases hi : hasB x y z i
    · have hv : Hid (coV x y z i = 0) := by unfold coV; rw [hi]; exact rfl
      have HI := Lib.hid hi
      clear hi
      go_wp2
      go_ret2
      exact ⟨by rw [hv.out, HI.out]; rfl, HB2.out⟩
    · have HI := Lib.hid hi
      clear hi
      go_wp2_with fail
      refine (c_sbCoarse _ _ _ _ _ HI.out).mono ?_
      rintro e w3 ⟨rfl, hb3⟩
      have HB3 : Hid (Below w.heap.size w w3) := HB2.out.trans (hb3.mono (by omega))
      clear hb3
      go_wp2
      go_ret2
      exact ⟨by rw [HI.out]; rfl, HB3.out⟩
end Go.Proofs.Ytglcdgonbmdhoab
