/-
  Contracts of chapter 3: greatest common divisors and fractions in lowest terms, in the program and in the model.
-/
import Derived.Test.YtglcdgonbmdhoabC4
import Derived.Test.YtglcdgonbmdhoabQ1
import Derived.Lib.Hide
namespace Go.Proofs.Ytglcdgonbmdhoab
open Go.RowKit
set_option linter.unusedVariables false

theorem gcd_step (p q : Nat) : Nat.gcd q (p % q) = Nat.gcd p q := by
  rw [Nat.gcd_comm q, ← Nat.gcd_rec, Nat.gcd_comm]

set_option maxHeartbeats 1000000 in
theorem c_commonDivisor (a b : Nat) (w : World) (ha : a ≤ 4000000000000000) (hb : b ≤ 4000000000000000) : Calls Try.prog 51 #[.int .i64 a, .int .i64 b] w fun e w' => e = .returned (.int .i64 (Nat.gcd a b)) ∧ Below w.heap.size w w' := by
  generalize hG : Nat.gcd a b = G
  have HG := Lib.hid hG
  clear hG
  go_enter Try.func51, Try.ntmps51
  go_wp2
  go_loopw [0, 1] (fun u v wr => ∃ p q : Nat, u = .int .i64 p ∧ v = .int .i64 q ∧ Nat.gcd p q = G ∧ p ≤ 4000000000000000 ∧ q ≤ 4000000000000000 ∧ Below w.heap.size w wr) (fun _ v _ => (intOf v).toNat)
  case atStart => exact ⟨a, b, rfl, rfl, HG.out, ha, hb, Below.refl _ _⟩
  case round =>
    obtain ⟨p, q, rfl, rfl, hg, hp, hq, hbw⟩ := hrel
    have HG1 := Lib.hid hg
    have HB := Lib.hid hbw
    clear hg hbw
    by_cases h0 : q = 0
    · subst h0
      have HG2 : Hid (p = G) := Lib.hid (by simpa using HG1.out)
      go_wp2
      go_ret
      exact ⟨ret_int (by rw [HG2.out]), HB.out⟩
    · have h1 : (q : Int) ≠ 0 := by omega
      have h2 : (0 : Int) ≤ (p : Int) % (q : Int) := Int.emod_nonneg _ h1
      have h3 : (p : Int) % (q : Int) < (q : Int) := Int.emod_lt_of_pos _ (by omega)
      have HG3 : Hid (Nat.gcd q (p % q) = G) := by rw [gcd_step]; exact HG1.out
      go_wp2
      go_quiet (fail)
      go_wp2
      go_roundw
      case rel => exact ⟨q, p % q, rfl, by go_num, HG3.out, hq, by omega, below_draws HB.out _⟩
      case measure => simp [intOf]; omega

theorem three_results {fn : Func} {t0 t1 t2 : Tmp} (h : fn.results = #[.tmp t0, .tmp t1, .tmp t2]) (fr : Array Value) (P : Program) (w : World) :
    (results fn fr).run P w = .ok (.tuple #[fr.getD t0 undef, fr.getD t1 undef, fr.getD t2 undef]) w := by simp [results, h]

set_option maxHeartbeats 1000000 in
theorem c_moPart (a b : Nat) (w : World) (ha : a ≤ 4000000000000000) (hb : b ≤ 4000000000000000) (h0 : 0 < b) : Calls Try.prog 50 #[.int .i64 a, .int .i64 b] w fun e w' => e = .returned (.tuple #[.int .i64 ((a : Int) / (Nat.gcd a b : Nat)), .int .i64 ((b : Int) / (Nat.gcd a b : Nat))]) ∧ Below w.heap.size w w' := by
  have hg : 0 < Nat.gcd a b := Nat.gcd_pos_of_pos_right _ h0
  have hl : Nat.gcd a b ≤ b := Nat.gcd_le_right _ h0
  generalize hG : Nat.gcd a b = G at *
  have HG := Lib.hid hG
  clear hG
  go_enter Try.func50, Try.ntmps50
  go_wp2
  go_loop [6, 7, 8] (fun u v _ => ∃ p q : Nat, u = .int .i64 p ∧ v = .int .i64 q ∧ Nat.gcd p q = G ∧ p ≤ 4000000000000000 ∧ q ≤ 4000000000000000) (fun _ v _ => (intOf v).toNat)
  case atStart => exact ⟨a, b, rfl, rfl, HG.out, ha, hb⟩
  case round =>
    obtain ⟨p, q, rfl, rfl, hg, hp, hq⟩ := hrel
    have HG1 := Lib.hid hg
    clear hg
    by_cases hq0 : q = 0
    · subst hq0
      obtain rfl : p = G := by simpa using HG1.out
      have g1 : (p : Int) ≠ 0 := by omega
      obtain ⟨d1, d2⟩ := div_box (i := (a : Int)) (x := (p : Int)) (by omega) (by omega)
      obtain ⟨e1, e2⟩ := div_box (i := (b : Int)) (x := (p : Int)) (by omega) (by omega)
      go_wp2
      go_quiet (fail)
      go_wp2
      go_ret2
      exact ⟨rfl, below_draws (Below.refl _ _) _⟩
    · have h1 : (q : Int) ≠ 0 := by omega
      have h2 : (0 : Int) ≤ (p : Int) % (q : Int) := Int.emod_nonneg _ h1
      have h3 : (p : Int) % (q : Int) < (q : Int) := Int.emod_lt_of_pos _ (by omega)
      have h4 : (0 : Int) < (q : Int) := by omega
      have HG3 : Hid (Nat.gcd q (p % q) = G) := by rw [gcd_step]; exact HG1.out
      go_wp2
      go_round
      case rel => exact ⟨q, p % q, rfl, by go_num, HG3.out, hq, by omega⟩
      case measure => simp [intOf]; omega

/-- A piece with tonnes. -/
def pgB (t m r : Int) : Bool := pieB t m r && decide (t ≠ 0)
def pgA (t m r : Int) : Int := if pgB t m r then m / (Int.gcd m t : Int) else 0
def pgC (t m r : Int) : Int := if pgB t m r then t / (Int.gcd m t : Int) else 0

set_option maxHeartbeats 1000000 in
theorem c_PieceGrade (t m r : Int) (w : World) : Calls Try.prog 21 #[.agg #[.int .i64 t, .int .i64 m, .int .i64 r]] w fun e w' => e = .returned (.tuple #[.int .i64 (pgA t m r), .int .i64 (pgC t m r), .bool (pgB t m r)]) ∧ Below w.heap.size w w' := by
  unfold pgA pgC
  cases hp : pieB t m r
  · rw [show pgB t m r = false by unfold pgB; rw [hp]; rfl]
    simp only [Bool.false_eq_true, if_false]
    go_enter Try.func21, Try.ntmps21
    go_wp2_with (go_at_call 13; refine (c_IsPiece _ _ _ _).mono ?_; rintro e w1 ⟨rfl, hb1⟩)
    refine bodyPost_ret (three_results rfl _ _ _) rfl ?_
    exact ⟨rfl, ((Below.refl _ _).alloc (Nat.le_refl _) _).trans (hb1.mono (by simp))⟩
  · have HP := Lib.hid hp
    obtain ⟨a1, a2, a3, a4, a5, a6⟩ := pie_true hp
    by_cases h0 : t = 0
    · subst h0
      rw [show pgB 0 m r = false by unfold pgB; rw [hp]; rfl]
      simp only [Bool.false_eq_true, if_false]
      clear hp
      go_enter Try.func21, Try.ntmps21
      go_wp2_with fail
      refine (c_IsPiece _ _ _ _).mono ?_
      rintro e w1 ⟨rfl, hb1⟩
      rw [HP.out]
      obtain ⟨hc1, hf1⟩ := bcell hb1
      have s1 := hb1.size
      simp at s1
      go_wp2
      refine bodyPost_ret (three_results rfl _ _ _) rfl ?_
      exact ⟨rfl, ((Below.refl _ _).alloc (Nat.le_refl _) _).trans (hb1.mono (by simp))⟩
    · rw [show pgB t m r = true by unfold pgB; rw [hp]; simpa using h0]
      simp only [if_true]
      clear hp
      obtain ⟨a, rfl⟩ := Int.eq_ofNat_of_zero_le a3
      obtain ⟨b, rfl⟩ := Int.eq_ofNat_of_zero_le a1
      simp only [Int.gcd_natCast_natCast]
      have hbp : 0 < b := by omega
      have hg : 0 < Nat.gcd a b := Nat.gcd_pos_of_pos_right _ hbp
      have hl : Nat.gcd a b ≤ b := Nat.gcd_le_right _ hbp
      have HGC := Lib.hid (c_commonDivisor a b)
      generalize Nat.gcd a b = G at *
      have g1 : (G : Int) ≠ 0 := by omega
      obtain ⟨d1, d2⟩ := div_box (i := (a : Int)) (x := (G : Int)) (by omega) (by omega)
      obtain ⟨e1, e2⟩ := div_box (i := (b : Int)) (x := (G : Int)) (by omega) (by omega)
      go_enter Try.func21, Try.ntmps21
      go_wp2_with fail
      refine (c_IsPiece _ _ _ _).mono ?_
      rintro e w1 ⟨rfl, hb1⟩
      rw [HP.out]
      obtain ⟨hc1, hf1⟩ := bcell hb1
      have s1 := hb1.size
      simp at s1 hc1 hf1
      have p10 : w.heap.size < w1.heap.size := by omega
      have HB1 : Hid (Below w.heap.size w w1) := ((Below.refl _ _).alloc (Nat.le_refl _) _).trans (hb1.mono (by simp))
      clear hb1
      go_wp2_with fail
      refine (HGC.out _ (by omega) (by omega)).mono ?_
      rintro e w2 ⟨rfl, hb2⟩
      obtain ⟨hc2, hf2⟩ := bcell hb2
      have s2 := hb2.size
      have p20 : w.heap.size < w2.heap.size := by omega
      have HB2 : Hid (Below w.heap.size w w2) := HB1.out.trans (hb2.mono (by omega))
      clear hb2
      go_wp2
      go_quiet (fail)
      go_wp2
      refine bodyPost_ret (three_results rfl _ _ _) rfl ?_
      exact ⟨rfl, below_draws HB2.out _⟩

set_option maxHeartbeats 1000000 in
theorem c_PieceGradeS (t m r : Int) (w : World) : Calls Try.prog 20 #[.agg #[.int .i64 t, .int .i64 m, .int .i64 r]] w fun e w' => e = .returned (.tuple #[.int .i64 (pgA t m r), .int .i64 (pgC t m r), .bool (pgB t m r)]) ∧ Below w.heap.size w w' := by
  unfold pgA pgC
  cases hp : pieB t m r
  · rw [show pgB t m r = false by unfold pgB; rw [hp]; rfl]
    simp only [Bool.false_eq_true, if_false]
    go_enter Try.func20, Try.ntmps20
    go_wp2_with (go_at_call 42; refine (c_sbPiece _ _ _ _).mono ?_; rintro e w1 ⟨rfl, hb1⟩)
    refine bodyPost_ret (three_results rfl _ _ _) rfl ?_
    exact ⟨rfl, ((Below.refl _ _).alloc (Nat.le_refl _) _).trans (hb1.mono (by simp))⟩
  · have HP := Lib.hid hp
    obtain ⟨a1, a2, a3, a4, a5, a6⟩ := pie_true hp
    by_cases h0 : t = 0
    · subst h0
      rw [show pgB 0 m r = false by unfold pgB; rw [hp]; rfl]
      simp only [Bool.false_eq_true, if_false]
      clear hp
      go_enter Try.func20, Try.ntmps20
      go_wp2_with fail
      refine (c_sbPiece _ _ _ _).mono ?_
      rintro e w1 ⟨rfl, hb1⟩
      rw [HP.out]
      obtain ⟨hc1, hf1⟩ := bcell hb1
      have s1 := hb1.size
      simp at s1
      go_wp2
      refine bodyPost_ret (three_results rfl _ _ _) rfl ?_
      exact ⟨rfl, ((Below.refl _ _).alloc (Nat.le_refl _) _).trans (hb1.mono (by simp))⟩
    · rw [show pgB t m r = true by unfold pgB; rw [hp]; simpa using h0]
      simp only [if_true]
      clear hp
      obtain ⟨a, rfl⟩ := Int.eq_ofNat_of_zero_le a3
      obtain ⟨b, rfl⟩ := Int.eq_ofNat_of_zero_le a1
      simp only [Int.gcd_natCast_natCast]
      have hbp : 0 < b := by omega
      have HGC := Lib.hid (c_moPart a b)
      generalize Nat.gcd a b = G at *
      generalize (a : Int) / (G : Int) = q1 at *
      generalize (b : Int) / (G : Int) = q2 at *
      go_enter Try.func20, Try.ntmps20
      go_wp2_with fail
      refine (c_sbPiece _ _ _ _).mono ?_
      rintro e w1 ⟨rfl, hb1⟩
      rw [HP.out]
      obtain ⟨hc1, hf1⟩ := bcell hb1
      have s1 := hb1.size
      simp at s1 hc1 hf1
      have p10 : w.heap.size < w1.heap.size := by omega
      have HB1 : Hid (Below w.heap.size w w1) := ((Below.refl _ _).alloc (Nat.le_refl _) _).trans (hb1.mono (by simp))
      clear hb1
      go_wp2_with fail
      refine (HGC.out _ (by omega) (by omega) hbp).mono ?_
      rintro e w2 ⟨rfl, hb2⟩
      have HB2 : Hid (Below w.heap.size w w2) := HB1.out.trans (hb2.mono (by omega))
      clear hb2
      go_wp2
      refine bodyPost_ret (three_results rfl _ _ _) rfl ?_
      exact ⟨rfl, HB2.out⟩
end Go.Proofs.Ytglcdgonbmdhoab
