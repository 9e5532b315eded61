/-
  Contracts: the cut-off, in the program and in the model of it.
-/
import Derived.Test.YtcmdnpablnihmaaW6
namespace Go.Proofs.Ytcmdnpablnihmaa
open Go.RowKit
set_option linter.unusedVariables false

/-- The least whole number that pays (2000 if none does). -/
def cutG (p q r : Int) : Int := if q * p = 0 then (if r = 0 then 0 else 2000) else -((-(1000 * r)) / (q * p))
def cutB (p q r s : Int) : Bool := priB p q r s && decide (cutG p q r ≤ 1000)
def cutV (p q r s : Int) : Int := if cutB p q r s then cutG p q r else 0
theorem cut_box3 {p q : Int} (p0 : 0 ≤ p) (p1 : p ≤ 1000) (q0 : 0 ≤ q) (q1 : q ≤ 1000) : 0 ≤ q * p ∧ q * p ≤ 1000000 := by
  have a : q * p ≤ 1000 * p := Int.mul_le_mul_of_nonneg_right q1 p0
  exact ⟨Int.mul_nonneg q0 p0, by omega⟩
theorem cut_iff {p q r : Int} (p0 : 0 ≤ p) (q0 : 0 ≤ q) (r0 : 0 ≤ r) {k : Int} (k1 : k ≤ 1000) (k0 : 0 ≤ k) : 1000 * r ≤ k * q * p ↔ cutG p q r ≤ k := by
  unfold cutG
  rw [Int.mul_assoc]
  have hp : 0 ≤ q * p := Int.mul_nonneg q0 p0
  generalize q * p = m at *
  by_cases h : m = 0
  · rw [if_pos h, h, Int.mul_zero]
    by_cases hr : r = 0
    · rw [if_pos hr]; omega
    · rw [if_neg hr]; omega
  · rw [if_neg h]
    have a := quo_le (q := -k) (d := m) (n := -(1000 * r)) (by omega)
    rw [Int.neg_mul] at a
    omega
theorem cut_ge {p q r : Int} (p0 : 0 ≤ p) (q0 : 0 ≤ q) (r0 : 0 ≤ r) : 0 ≤ cutG p q r := by
  unfold cutG
  have hp : 0 ≤ q * p := Int.mul_nonneg q0 p0
  generalize q * p = m at *
  by_cases h : m = 0
  · rw [if_pos h]
    by_cases hr : r = 0
    · rw [if_pos hr]; omega
    · rw [if_neg hr]; omega
  · rw [if_neg h]
    have a : (-(1000 * r)) / m < 1 := Int.ediv_lt_of_lt_mul (by omega) (by omega)
    omega

set_option maxHeartbeats 2000000 in
theorem c_CutOffS (p q r s : Int) (w : World) :
    Calls Try.prog 39 #[.agg #[.int .i64 p, .int .i64 q, .int .i64 r, .int .i64 s]] w fun e w' => e = .returned (.tuple #[.int .i64 (cutV p q r s), .bool (cutB p q r s)]) ∧ Below w.heap.size w w' := by
  have HX0 : Hid (Box4 (w.alloc (.cells #[.int .i64 p, .int .i64 q, .int .i64 r, .int .i64 s] 29)) w.heap.size p q r s) := Box4.new _ _ _ _ _ _
  have HB0 : Hid (Below w.heap.size w (w.alloc (.cells #[.int .i64 p, .int .i64 q, .int .i64 r, .int .i64 s] 29))) := (Below.refl _ _).alloc (Nat.le_refl _) _
  have H1 := Lib.hid (c_vaPrices p q r s (w.alloc (.cells #[.int .i64 p, .int .i64 q, .int .i64 r, .int .i64 s] 29)))
  unfold cutV cutB
  cases hp : priB p q r s
  · rw [hp] at H1
    simp only [Bool.false_and, Bool.false_eq_true, if_false]
    clear hp
    go_enter Try.func39, Try.ntmps39
    go_wp2_with fail
    refine H1.out.mono ?_
    rintro e w1 ⟨rfl, hb1⟩
    have HB1 : Hid (Below w.heap.size w w1) := HB0.out.trans (hb1.mono HB0.out.size)
    clear hb1
    go_wp2
    go_ret2
    exact ⟨rfl, HB1.out⟩
  · obtain ⟨p0, p1, q0, q1, r0, r1, _, _⟩ := pri_yes hp
    rw [hp] at H1
    simp only [Bool.true_and]
    have HC : Hid (∀ k : Int, 0 ≤ k → k ≤ 1000 → (1000 * r ≤ k * q * p ↔ cutG p q r ≤ k)) := fun k k0 k1 => cut_iff p0 q0 r0 k1 k0
    have hG0 := cut_ge p0 q0 r0
    have HM : Hid (∀ k : Int, 0 ≤ k → k ≤ 1000 → 0 ≤ k * q ∧ k * q ≤ 1000000 ∧ 0 ≤ k * q * p ∧ k * q * p ≤ 1000000000) := fun k k0 k1 => by
      have a := Int.mul_nonneg k0 q0
      have b : k * q ≤ 1000 * q := Int.mul_le_mul_of_nonneg_right k1 q0
      have c := Int.mul_nonneg a p0
      have d : k * q * p ≤ 1000000 * p := Int.mul_le_mul_of_nonneg_right (by omega) p0
      omega
    have N1 : Hid (cutG p q r ≤ 1000 → decide (cutG p q r ≤ 1000) = true ∧ (if decide (cutG p q r ≤ 1000) = true then cutG p q r else 0) = cutG p q r) := fun h => by rw [decide_eq_true h]; exact ⟨rfl, rfl⟩
    have N0 : Hid (¬ cutG p q r ≤ 1000 → decide (cutG p q r ≤ 1000) = false ∧ (if decide (cutG p q r ≤ 1000) = true then cutG p q r else 0) = 0) := fun h => by rw [decide_eq_false h]; exact ⟨rfl, rfl⟩
    generalize (if decide (cutG p q r ≤ 1000) = true then cutG p q r else 0) = RV at *
    generalize decide (cutG p q r ≤ 1000) = RB at *
    generalize cutG p q r = G at *
    clear hp
    go_enter Try.func39, Try.ntmps39
    go_wp2_with fail
    refine H1.out.mono ?_
    rintro e w1 ⟨rfl, hb1⟩
    have HX1 := Lib.hid (HX0.out.below hb1)
    have HB1 : Hid (Below w.heap.size w w1) := HB0.out.trans (hb1.mono HB0.out.size)
    clear hb1 H1 HX0 HB0
    have d0 := HX1.out.c0
    have d1 := HX1.out.c1
    have d2 := HX1.out.c2
    have d3 := HX1.out.c3
    clear HX1
    go_wp2_with fail
    go_loop [4] (fun i => ∃ k : Nat, k ≤ 1001 ∧ i = .int .i64 k ∧ (k : Int) ≤ G) (fun i => 1001 - (intOf i).toNat)
    case atStart => exact ⟨0, by omega, rfl, by omega⟩
    case round =>
      obtain ⟨k, hk, rfl, hkG⟩ := hrel
      by_cases hlt : k ≤ 1000
      · obtain ⟨m1, m2, m3, m4⟩ := HM.out k (by omega) (by omega)
        have hi := HC.out k (by omega) (by omega)
        by_cases ht : G ≤ (k : Int)
        · have ht' := hi.2 ht
          obtain ⟨rfl, rfl⟩ := N1.out (by omega)
          clear hi HC HM N0 N1
          go_wp2
          go_ret2
          exact ⟨by rw [show RV = (k : Int) by omega]; rfl, HB1.out⟩
        · have ht' : k * q * p < 1000 * r := by omega
          clear hi
          go_wp2
          go_round
          case rel => exact ⟨k + 1, by omega, by go_num, by omega⟩
          case measure => simp [intOf]; omega
      · have e : (k : Int) = 1001 := by omega
        obtain ⟨rfl, rfl⟩ := N0.out (by omega)
        clear HC HM N0 N1
        go_wp2
        go_ret2
        exact ⟨rfl, HB1.out⟩

set_option maxHeartbeats 2000000 in
theorem c_CutOff (p q r s : Int) (w : World) :
    Calls Try.prog 40 #[.agg #[.int .i64 p, .int .i64 q, .int .i64 r, .int .i64 s]] w fun e w' => e = .returned (.tuple #[.int .i64 (cutV p q r s), .bool (cutB p q r s)]) ∧ Below w.heap.size w w' := by
  have HX0 : Hid (Box4 (w.alloc (.cells #[.int .i64 p, .int .i64 q, .int .i64 r, .int .i64 s] 29)) w.heap.size p q r s) := Box4.new _ _ _ _ _ _
  have HB0 : Hid (Below w.heap.size w (w.alloc (.cells #[.int .i64 p, .int .i64 q, .int .i64 r, .int .i64 s] 29))) := (Below.refl _ _).alloc (Nat.le_refl _) _
  have H1 := Lib.hid (c_ArePrices p q r s (w.alloc (.cells #[.int .i64 p, .int .i64 q, .int .i64 r, .int .i64 s] 29)))
  unfold cutV cutB
  cases hp : priB p q r s
  · rw [hp] at H1
    simp only [Bool.false_and, Bool.false_eq_true, if_false]
    clear hp
    go_enter Try.func40, Try.ntmps40
    go_wp2_with fail
    refine H1.out.mono ?_
    rintro e w1 ⟨rfl, hb1⟩
    have HB1 : Hid (Below w.heap.size w w1) := HB0.out.trans (hb1.mono HB0.out.size)
    clear hb1
    go_wp2
    go_ret2
    exact ⟨rfl, HB1.out⟩
  · obtain ⟨p0, p1, q0, q1, r0, r1, _, _⟩ := pri_yes hp
    rw [hp] at H1
    simp only [Bool.true_and]
    obtain ⟨m0, m1⟩ := cut_box3 p0 p1 q0 q1
    have HG : Hid (cutG p q r = if q * p = 0 then (if r = 0 then 0 else 2000) else -((-(1000 * r)) / (q * p))) := rfl
    have hG0 := cut_ge p0 q0 r0
    generalize cutG p q r = G at *
    by_cases hz : q * p = 0
    · have e : G = if r = 0 then 0 else 2000 := by rw [HG.out, if_pos hz]
      by_cases hr : r = 0
      · rw [if_pos hr] at e
        subst e hr
        clear HG hG0 hp
        go_enter Try.func40, Try.ntmps40
        go_wp2_with fail
        refine H1.out.mono ?_
        rintro e w1 ⟨rfl, hb1⟩
        have HX1 := Lib.hid (HX0.out.below hb1)
        have HB1 : Hid (Below w.heap.size w w1) := HB0.out.trans (hb1.mono HB0.out.size)
        clear hb1 H1 HX0 HB0
        have d0 := HX1.out.c0
        have d1 := HX1.out.c1
        have d2 := HX1.out.c2
        have d3 := HX1.out.c3
        clear HX1
        go_wp2
        go_ret2
        exact ⟨rfl, HB1.out⟩
      · rw [if_neg hr] at e
        subst e
        have hr' : ((1000 * r : Int) == 0) = false := by simpa using hr
        clear HG hG0 hp
        go_enter Try.func40, Try.ntmps40
        go_wp2_with fail
        refine H1.out.mono ?_
        rintro e w1 ⟨rfl, hb1⟩
        have HX1 := Lib.hid (HX0.out.below hb1)
        have HB1 : Hid (Below w.heap.size w w1) := HB0.out.trans (hb1.mono HB0.out.size)
        clear hb1 H1 HX0 HB0
        have d0 := HX1.out.c0
        have d1 := HX1.out.c1
        have d2 := HX1.out.c2
        have d3 := HX1.out.c3
        clear HX1
        go_wp2
        go_ret2
        exact ⟨rfl, HB1.out⟩
    · have e : G = -((-(1000 * r)) / (q * p)) := by rw [HG.out, if_neg hz]
      have d1' : 1 ≤ q * p := by omega
      have lo : -1000000 ≤ (-(1000 * r)) / (q * p) := by
        have := (quo_le (q := -1000000) (n := -(1000 * r)) d1').1 (by omega)
        exact this
      have hi : (-(1000 * r)) / (q * p) ≤ 0 := by omega
      obtain ⟨fc, _⟩ := fl_int (1000 * r) 19 (by omega) (by omega)
      obtain ⟨_, fg⟩ := fl_int (q * p) 19 (by omega) (by omega)
      obtain ⟨fq, hfq, hF⟩ := fl_div (fl_neg fc) (fg hz) (by omega) (by omega)
      obtain ⟨q0', hq0, hqa, hqb⟩ := fl_toInt (K := 21) (hF.mono (by omega)) (by omega)
      have HE := Lib.hid (fun u => c_makeExact fq q0' (-(1000 * r)) (q * p) u hq0 (by omega) (by omega) (by omega) (by omega) d1' m1 (by omega) (by omega))
      have hop : ∀ t w, (binOp .quo t (.float .f64 (Go.Op.negFloat .f64 (floatOfInt .f64 (1000 * r)))) (.float .f64 (floatOfInt .f64 (q * p)))).run Try.prog w = .ok (.float .f64 fq) w := fun t w => run_float_arith w .quo t .f64 _ _ fq hfq
      have hneg : ∀ (w : World), (Go.Op.unary .neg (.float .f64 (floatOfInt .f64 (1000 * r)))).run Try.prog w = .ok (.float .f64 (Go.Op.negFloat .f64 (floatOfInt .f64 (1000 * r)))) w := fun _ => rfl
      clear HG fc fg hfq hF hq0 hqa hqb
      generalize (-(1000 * r)) / (q * p) = f at *
      by_cases hg : G ≤ 1000
      · rw [decide_eq_true hg]
        simp only [if_true]
        go_enter Try.func40, Try.ntmps40
        go_wp2_with fail
        refine H1.out.mono ?_
        rintro e w1 ⟨rfl, hb1⟩
        have HX1 := Lib.hid (HX0.out.below hb1)
        have HB1 : Hid (Below w.heap.size w w1) := HB0.out.trans (hb1.mono HB0.out.size)
        clear hb1 H1 HX0 HB0
        have d0 := HX1.out.c0
        have d1 := HX1.out.c1
        have d2 := HX1.out.c2
        have d3 := HX1.out.c3
        clear HX1
        go_wp2_with fail
        refine (HE.out _).mono ?_
        rintro e w2 ⟨rfl, rfl⟩
        go_wp2
        go_ret2
        exact ⟨by subst e; rfl, HB1.out⟩
      · rw [decide_eq_false hg]
        simp only [Bool.false_eq_true, if_false]
        go_enter Try.func40, Try.ntmps40
        go_wp2_with fail
        refine H1.out.mono ?_
        rintro e w1 ⟨rfl, hb1⟩
        have HX1 := Lib.hid (HX0.out.below hb1)
        have HB1 : Hid (Below w.heap.size w w1) := HB0.out.trans (hb1.mono HB0.out.size)
        clear hb1 H1 HX0 HB0
        have d0 := HX1.out.c0
        have d1 := HX1.out.c1
        have d2 := HX1.out.c2
        have d3 := HX1.out.c3
        clear HX1
        go_wp2_with fail
        refine (HE.out _).mono ?_
        rintro e w2 ⟨rfl, rfl⟩
        go_wp2
        go_ret2
        exact ⟨rfl, HB1.out⟩

end Go.Proofs.Ytcmdnpablnihmaa
