/-
  Contracts of chapter 1: numbers of steps, nearness, and the exported functions that answer numbers.
-/
import Derived.Test.YtpbkobkakedegaaC3
namespace Go.Proofs.Ytpbkobkakedegaa
open Go.RowKit

theorem four_results {fn : Func} {t0 t1 t2 t3 : Tmp} (h : fn.results = #[.tmp t0, .tmp t1, .tmp t2, .tmp t3]) (fr : Array Value) (P : Program) (w : World) :
    (results fn fr).run P w = .ok (.tuple #[fr.getD t0 undef, fr.getD t1 undef, fr.getD t2 undef, fr.getD t3 undef]) w := by simp [results, h]
theorem still_at {P : Program} {f : FuncId} {args : Array Value} {w : World} {n : Nat} {v : Value}
    (h : Calls P f args (w.drewN n) fun e w' => e = .returned v ∧ w.drewN n = w') : Calls P f args (w.drewN n) fun e w' => e = .returned v ∧ ∃ m, w' = w.drewN m :=
  h.mono fun _ _ hh => ⟨hh.1, n, hh.2.symm⟩
theorem still_past {P : Program} {f : FuncId} {args : Array Value} {w : World} {k n : Nat} {v : Value}
    (h : Calls P f args (w.drewN (k + n)) fun e w' => e = .returned v ∧ w.drewN (k + n) = w') : Calls P f args (w.drewN (k + n)) fun e w' => e = .returned v ∧ ∃ m, w' = w.drewN (k + m) :=
  h.mono fun _ _ hh => ⟨hh.1, n, hh.2.symm⟩
theorem below_draws {B : Nat} {a w : World} (h : Below B a w) (n : Nat) : Below B a (w.drewN n) := ⟨h.os, h.tape, h.output, h.size, h.block⟩

set_option maxHeartbeats 1000000 in
theorem c_countSteps (a b c p q r : Int) (w : World) (a1 : 0 ≤ a) (a2 : a ≤ 1000) (b1 : 0 ≤ b) (b2 : b ≤ 1000) (c1 : 0 ≤ c) (c2 : c ≤ 1000) (p1 : 0 ≤ p) (p2 : p ≤ 1000) (q1 : 0 ≤ q) (q2 : q ≤ 1000) (r1 : 0 ≤ r) (r2 : r ≤ 1000) :
    Calls Try.prog 55 #[.agg #[.int .i64 a, .int .i64 b, .int .i64 c], .agg #[.int .i64 p, .int .i64 q, .int .i64 r]] w fun e w' => e = .returned (.int .i64 (((a - p).natAbs : Int) + ((b - q).natAbs : Int) + ((c - r).natAbs : Int))) ∧ Below w.heap.size w w' := by
  have s1 : (0 : Int) ≤ ((a - p).natAbs : Int) := by omega
  have s2 : ((a - p).natAbs : Int) ≤ 1000 := by omega
  have s3 : (0 : Int) ≤ ((b - q).natAbs : Int) := by omega
  have s4 : ((b - q).natAbs : Int) ≤ 1000 := by omega
  have s5 : (0 : Int) ≤ ((c - r).natAbs : Int) := by omega
  have s6 : ((c - r).natAbs : Int) ≤ 1000 := by omega
  go_enter Try.func55, Try.ntmps55
  go_wp2
  refine wp_loop_rounds 4 ?_
  rw [rounds_succ]
  go_wp2
  go_quiet ((go_at_call 63; exact still_at (c_differenceOf _ _ _ a1 (by omega) p1 (by omega))))
  go_wp2
  rw [rounds_succ]
  go_wp2
  go_quiet ((go_at_call 63; exact still_past (c_differenceOf _ _ _ b1 (by omega) q1 (by omega))))
  go_wp2
  rw [rounds_succ]
  go_wp2
  go_quiet ((go_at_call 63; exact still_past (c_differenceOf _ _ _ c1 (by omega) r1 (by omega))))
  go_wp2
  rw [rounds_succ]
  go_wp2
  go_ret
  exact ⟨rfl, (by repeat' (first | (with_reducible refine below_draws ?_ _) | (with_reducible exact Below.refl _ _) | (with_reducible refine Below.alloc ?_ (by simp) _)))⟩

def nearB (a b c p q r d : Int) : Bool := decide (((a - p).natAbs : Int) ≤ d) && decide (((b - q).natAbs : Int) ≤ d) && decide (((c - r).natAbs : Int) ≤ d)

set_option maxHeartbeats 1000000 in
theorem c_isWithin (a b c p q r d : Int) (w : World) (a1 : 0 ≤ a) (a2 : a ≤ 1000) (b1 : 0 ≤ b) (b2 : b ≤ 1000) (c1 : 0 ≤ c) (c2 : c ≤ 1000) (p1 : 0 ≤ p) (p2 : p ≤ 1000) (q1 : 0 ≤ q) (q2 : q ≤ 1000) (r1 : 0 ≤ r) (r2 : r ≤ 1000) :
    Calls Try.prog 58 #[.agg #[.int .i64 a, .int .i64 b, .int .i64 c], .agg #[.int .i64 p, .int .i64 q, .int .i64 r], .int .i64 d] w fun e w' => e = .returned (.bool (nearB a b c p q r d)) ∧ Below w.heap.size w w' := by
  by_cases h1 : ((a - p).natAbs : Int) ≤ d
  · by_cases h2 : ((b - q).natAbs : Int) ≤ d
    · by_cases h3 : ((c - r).natAbs : Int) ≤ d
      all_goals
        go_enter Try.func58, Try.ntmps58
        go_wp2
        refine wp_loop_rounds 4 ?_
        rw [rounds_succ]
        go_wp2
        go_quiet ((go_at_call 63; exact still_at (c_differenceOf _ _ _ a1 (by omega) p1 (by omega))))
        go_wp2
        rw [rounds_succ]
        go_wp2
        go_quiet ((go_at_call 63; exact still_past (c_differenceOf _ _ _ b1 (by omega) q1 (by omega))))
        go_wp2
        rw [rounds_succ]
        go_wp2
        go_quiet ((go_at_call 63; exact still_past (c_differenceOf _ _ _ c1 (by omega) r1 (by omega))))
        go_wp2
        (try (rw [rounds_succ]; go_wp2))
        go_ret
        exact ⟨ret_bool (by unfold nearB; simp; omega), (by repeat' (first | (with_reducible refine below_draws ?_ _) | (with_reducible exact Below.refl _ _) | (with_reducible refine Below.alloc ?_ (by simp) _)))⟩
    · go_enter Try.func58, Try.ntmps58
      go_wp2
      refine wp_loop_rounds 4 ?_
      rw [rounds_succ]
      go_wp2
      go_quiet ((go_at_call 63; exact still_at (c_differenceOf _ _ _ a1 (by omega) p1 (by omega))))
      go_wp2
      rw [rounds_succ]
      go_wp2
      go_quiet ((go_at_call 63; exact still_past (c_differenceOf _ _ _ b1 (by omega) q1 (by omega))))
      go_wp2
      go_ret
      exact ⟨ret_bool (by unfold nearB; simp; omega), (by repeat' (first | (with_reducible refine below_draws ?_ _) | (with_reducible exact Below.refl _ _) | (with_reducible refine Below.alloc ?_ (by simp) _)))⟩
  · go_enter Try.func58, Try.ntmps58
    go_wp2
    refine wp_loop_rounds 4 ?_
    rw [rounds_succ]
    go_wp2
    go_quiet ((go_at_call 63; exact still_at (c_differenceOf _ _ _ a1 (by omega) p1 (by omega))))
    go_wp2
    go_ret
    exact ⟨ret_bool (by unfold nearB; simp; omega), (by repeat' (first | (with_reducible refine below_draws ?_ _) | (with_reducible exact Below.refl _ _) | (with_reducible refine Below.alloc ?_ (by simp) _)))⟩

set_option maxHeartbeats 1000000 in
theorem c_grNear (x y z i k d : Int) (w : World) (hx1 : 1 ≤ x) (hx2 : x ≤ 8) (hy1 : 1 ≤ y) (hy2 : y ≤ 6) (hi1 : 0 ≤ i) (hi2 : i ≤ 1000) (hk1 : 0 ≤ k) (hk2 : k ≤ 1000) : Calls Try.prog 56 #[.agg #[.int .i64 x, .int .i64 y, .int .i64 z], .int .i64 i, .int .i64 k, .int .i64 d] w fun e w' => e = .returned (.bool (nearB (i % x) (i / x % y) (i / x / y) (k % x) (k / x % y) (k / x / y) d)) ∧ Below w.heap.size w w' := by
  obtain ⟨hd1, hd2⟩ := div_box hx1 hi1
  obtain ⟨he1, he2⟩ := div_box (i := i / x) hy1 hd1
  obtain ⟨hm1, hm2⟩ := mod_box (i := i) hx1
  obtain ⟨hn1, hn2⟩ := mod_box (i := i / x) hy1
  obtain ⟨hd3, hd4⟩ := div_box hx1 hk1
  obtain ⟨he3, he4⟩ := div_box (i := k / x) hy1 hd3
  obtain ⟨hm3, hm4⟩ := mod_box (i := k) hx1
  obtain ⟨hn3, hn4⟩ := mod_box (i := k / x) hy1
  cases h1 : decide (((i % x - k % x).natAbs : Int) ≤ d) <;> cases h2 : decide (((i / x % y - k / x % y).natAbs : Int) ≤ d) <;> cases h3 : decide (((i / x / y - k / x / y).natAbs : Int) ≤ d)
  all_goals
    rw [nearB, h1, h2, h3]
    go_enter Try.func56, Try.ntmps56
    go_wp2
    refine wp_region_grow (by kernel_rfl) (by kernel_rfl) ?_
    repeat (go_big_quiet_step (first
      | (go_at_call 44; exact grow_of (c_grX _ _ _ _ _ hx1 hx2 (by assumption) (by assumption)))
      | (go_at_call 45; exact grow_of (c_grY _ _ _ _ _ hx1 hx2 hy1 hy2 (by assumption) (by assumption)))
      | (go_at_call 46; exact grow_of (c_grZ _ _ _ _ _ hx1 hx2 hy1 hy2 (by assumption) (by assumption)))
      | (go_at_call 62; exact grow_same (c_l1Abs _ _ (by omega) (by omega)))))
    refine wpQuiet_nil ?_
    intro _ hw'
    obtain ⟨u, hw''⟩ := hw'
    subst hw''
    have hb := wOf_below (w.alloc (.cells #[.int .i64 x, .int .i64 y, .int .i64 z] 25)) u
    generalize wOf (w.alloc (.cells #[.int .i64 x, .int .i64 y, .int .i64 z] 25)) u = w1 at hb ⊢
    go_wp2
    go_ret
    exact ⟨rfl, ((Below.refl _ _).alloc (Nat.le_refl _) _).trans (hb.mono (by simp))⟩

/-! ### The exported functions that answer numbers: two results (or four), the second (last) a bool -/

def cntV (x y z : Int) : Int := if goodB x y z then x * y * z else 0

set_option maxHeartbeats 400000 in
theorem c_BlockCountS (x y z : Int) (w : World) : Calls Try.prog 16 #[.agg #[.int .i64 x, .int .i64 y, .int .i64 z]] w fun e w' => e = .returned (.tuple #[.int .i64 (cntV x y z), .bool (goodB x y z)]) ∧ Below w.heap.size w w' := by
  cases hg : goodB x y z
  · rw [show cntV x y z = 0 from if_neg (by rw [hg]; simp)]
    go_enter Try.func16, Try.ntmps16
    go_wp2_with (go_at_call 37; refine (c_grGood _ _ _ _).mono ?_; rintro e w1 ⟨rfl, hb1⟩)
    go_ret2
    exact ⟨rfl, ((Below.refl _ _).alloc (Nat.le_refl _) _).trans (hb1.mono (by simp))⟩
  · obtain ⟨a, b, c, d, f, g, p1, p2, q1, q2⟩ := good_box hg
    rw [show cntV x y z = x * y * z from if_pos hg]
    go_enter Try.func16, Try.ntmps16
    go_wp2_with fail
    refine (c_grGood _ _ _ _).mono ?_
    rintro e w1 ⟨rfl, hb1⟩
    obtain ⟨hc1, hf1⟩ := bcell hb1
    have s1 := hb1.size
    simp at s1
    go_wp2_with fail
    refine (c_grCount _ _ _ _ (by omega) b (by omega) d (by omega) g).mono ?_
    rintro e w2 ⟨rfl, hb2⟩
    go_wp2
    go_ret2
    exact ⟨rfl, (((Below.refl _ _).alloc (Nat.le_refl _) _).trans (hb1.mono (by simp))).trans (hb2.mono (by omega))⟩

set_option maxHeartbeats 400000 in
theorem c_BlockCount (x y z : Int) (w : World) : Calls Try.prog 17 #[.agg #[.int .i64 x, .int .i64 y, .int .i64 z]] w fun e w' => e = .returned (.tuple #[.int .i64 (cntV x y z), .bool (goodB x y z)]) ∧ Below w.heap.size w w' := by
  cases hg : goodB x y z
  · rw [show cntV x y z = 0 from if_neg (by rw [hg]; simp)]
    go_enter Try.func17, Try.ntmps17
    go_wp2_with (go_at_call 15; refine (c_IsGrid _ _ _ _).mono ?_; rintro e w1 ⟨rfl, hb1⟩)
    go_ret2
    exact ⟨rfl, ((Below.refl _ _).alloc (Nat.le_refl _) _).trans (hb1.mono (by simp))⟩
  · obtain ⟨a, b, c, d, f, g, p1, p2, q1, q2⟩ := good_box hg
    rw [show cntV x y z = x * y * z from if_pos hg]
    go_enter Try.func17, Try.ntmps17
    go_wp2_with fail
    refine (c_IsGrid _ _ _ _).mono ?_
    rintro e w1 ⟨rfl, hb1⟩
    obtain ⟨hc1, hf1⟩ := bcell hb1
    have s1 := hb1.size
    simp at s1
    go_wp2_with fail
    refine (c_countBlocks _ _ _ _ (by omega) b (by omega) d (by omega) g).mono ?_
    rintro e w2 ⟨rfl, hb2⟩
    go_wp2
    go_ret2
    exact ⟨rfl, (((Below.refl _ _).alloc (Nat.le_refl _) _).trans (hb1.mono (by simp))).trans (hb2.mono (by omega))⟩

def atB (x y z a b c : Int) : Bool := goodB x y z && inB x y z a b c
def atW (x y z a b c : Int) : Int := if atB x y z a b c then (c * y + b) * x + a else 0

set_option maxHeartbeats 1000000 in
theorem c_BlockAtS (x y z a b c : Int) (w : World) : Calls Try.prog 18 #[.agg #[.int .i64 x, .int .i64 y, .int .i64 z], .int .i64 a, .int .i64 b, .int .i64 c] w fun e w' => e = .returned (.tuple #[.int .i64 (atW x y z a b c), .bool (atB x y z a b c)]) ∧ Below w.heap.size w w' := by
  cases hg : goodB x y z
  · have hb : atB x y z a b c = false := by unfold atB; rw [hg]; rfl
    rw [show atW x y z a b c = 0 from if_neg (by rw [hb]; simp), hb]
    clear hb
    go_enter Try.func18, Try.ntmps18
    go_wp2_with (go_at_call 37; refine (c_grGood _ _ _ _).mono ?_; rintro e w1 ⟨rfl, hb1⟩)
    go_ret2
    exact ⟨rfl, ((Below.refl _ _).alloc (Nat.le_refl _) _).trans (hb1.mono (by simp))⟩
  · obtain ⟨x1, x2, y1, y2, z1, z2, p1, p2, q1, q2⟩ := good_box hg
    cases hi : inB x y z a b c
    · have hb : atB x y z a b c = false := by unfold atB; rw [hi]; simp
      have hv : atV x y z a b c = -1 := if_neg (by rw [hi]; simp)
      rw [show atW x y z a b c = 0 from if_neg (by rw [hb]; simp), hb]
      clear hb
      go_enter Try.func18, Try.ntmps18
      go_wp2_with fail
      refine (c_grGood _ _ _ _).mono ?_
      rintro e w1 ⟨rfl, hb1⟩
      obtain ⟨hc1, hf1⟩ := bcell hb1
      have s1 := hb1.size
      simp at s1
      go_wp2_with fail
      refine (c_grAt _ _ _ _ _ _ _ x1 x2 y1 y2 z1 z2).mono ?_
      rintro e w2 ⟨rfl, hb2⟩
      go_wp2
      go_ret2
      exact ⟨rfl, (((Below.refl _ _).alloc (Nat.le_refl _) _).trans (hb1.mono (by simp))).trans (hb2.mono (by omega))⟩
    · have hb : atB x y z a b c = true := by unfold atB; rw [hg, hi]; rfl
      have hh := of_decide_eq_true hi
      obtain ⟨r1, r2, r3, r4⟩ := at_box x2 y2 z2 hh
      have hv : atV x y z a b c = (c * y + b) * x + a := if_pos hi
      have h0 : 0 ≤ atV x y z a b c := by rw [hv]; omega
      rw [show atW x y z a b c = atV x y z a b c from (if_pos hb).trans hv.symm, hb]
      clear hb hv hi hh r1 r2 r3 r4
      go_enter Try.func18, Try.ntmps18
      go_wp2_with fail
      refine (c_grGood _ _ _ _).mono ?_
      rintro e w1 ⟨rfl, hb1⟩
      obtain ⟨hc1, hf1⟩ := bcell hb1
      have s1 := hb1.size
      simp at s1
      go_wp2_with fail
      refine (c_grAt _ _ _ _ _ _ _ x1 x2 y1 y2 z1 z2).mono ?_
      rintro e w2 ⟨rfl, hb2⟩
      obtain ⟨hc2, hf2⟩ := bcell hb2
      have s2 := hb2.size
      have s3 : w.heap.size < w1.heap.size := by omega
      have s4 : w.heap.size < w2.heap.size := by omega
      go_wp2_with fail
      refine (c_grAt _ _ _ _ _ _ _ x1 x2 y1 y2 z1 z2).mono ?_
      rintro e w3 ⟨rfl, hb3⟩
      go_wp2
      go_ret2
      exact ⟨rfl, ((((Below.refl _ _).alloc (Nat.le_refl _) _).trans (hb1.mono (by simp))).trans (hb2.mono (by omega))).trans (hb3.mono (by omega))⟩

set_option maxHeartbeats 1000000 in
theorem c_BlockAt (x y z a b c : Int) (w : World) : Calls Try.prog 19 #[.agg #[.int .i64 x, .int .i64 y, .int .i64 z], .int .i64 a, .int .i64 b, .int .i64 c] w fun e w' => e = .returned (.tuple #[.int .i64 (atW x y z a b c), .bool (atB x y z a b c)]) ∧ Below w.heap.size w w' := by
  cases hg : goodB x y z
  · have hb : atB x y z a b c = false := by unfold atB; rw [hg]; rfl
    rw [show atW x y z a b c = 0 from if_neg (by rw [hb]; simp), hb]
    clear hb
    go_enter Try.func19, Try.ntmps19
    go_wp2_with (go_at_call 15; refine (c_IsGrid _ _ _ _).mono ?_; rintro e w1 ⟨rfl, hb1⟩)
    go_ret2
    exact ⟨rfl, ((Below.refl _ _).alloc (Nat.le_refl _) _).trans (hb1.mono (by simp))⟩
  · obtain ⟨x1, x2, y1, y2, z1, z2, p1, p2, q1, q2⟩ := good_box hg
    cases hi : inB x y z a b c
    · have hb : atB x y z a b c = false := by unfold atB; rw [hi]; simp
      rw [show atW x y z a b c = 0 from if_neg (by rw [hb]; simp), hb]
      clear hb
      go_enter Try.func19, Try.ntmps19
      go_wp2_with fail
      refine (c_IsGrid _ _ _ _).mono ?_
      rintro e w1 ⟨rfl, hb1⟩
      obtain ⟨hc1, hf1⟩ := bcell hb1
      have s1 := hb1.size
      simp at s1
      go_wp2_with fail
      refine (c_isPlace _ _ _ _ _ _ _).mono ?_
      rintro e w2 ⟨rfl, hb2⟩
      go_wp2
      go_ret2
      exact ⟨rfl, (((Below.refl _ _).alloc (Nat.le_refl _) _).trans (hb1.mono (by simp))).trans (hb2.mono (by omega))⟩
    · have hb : atB x y z a b c = true := by unfold atB; rw [hg, hi]; rfl
      have hh := of_decide_eq_true hi
      obtain ⟨r1, r2, r3, r4⟩ := at_box x2 y2 z2 hh
      obtain ⟨⟨k1, k2⟩, ⟨k3, k4⟩, k5, k6⟩ := hh
      rw [show atW x y z a b c = (c * y + b) * x + a from if_pos hb, hb]
      clear hb
      go_enter Try.func19, Try.ntmps19
      go_wp2_with fail
      refine (c_IsGrid _ _ _ _).mono ?_
      rintro e w1 ⟨rfl, hb1⟩
      obtain ⟨hc1, hf1⟩ := bcell hb1
      have s1 := hb1.size
      simp at s1
      go_wp2_with fail
      refine (c_isPlace _ _ _ _ _ _ _).mono ?_
      rintro e w2 ⟨rfl, hb2⟩
      obtain ⟨hc2, hf2⟩ := bcell hb2
      have s2 := hb2.size
      have s3 : w.heap.size < w1.heap.size := by omega
      have s4 : w.heap.size < w2.heap.size := by omega
      go_wp2
      go_ret2
      exact ⟨rfl, (((Below.refl _ _).alloc (Nat.le_refl _) _).trans (hb1.mono (by simp))).trans (hb2.mono (by omega))⟩
end Go.Proofs.Ytpbkobkakedegaa
