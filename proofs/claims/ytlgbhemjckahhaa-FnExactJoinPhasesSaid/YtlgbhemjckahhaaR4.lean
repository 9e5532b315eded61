/-
  Contracts of the law's own helpers over lists of lists: found as marked.
-/
import Derived.Test.YtlgbhemjckahhaaR1
namespace Go.Proofs.Ytlgbhemjckahhaa
open Go.RowKit
set_option linter.unusedVariables false

set_option maxHeartbeats 4000000 in
theorem c_heldIntSS (xss : List (List Int)) (v : Value) (B U : Nat) (k0 : Int) (w : World) (hl : xss.length ≤ 1048576) (ht : totN xss xss.length ≤ 1048576) (hk1 : 0 ≤ k0) (hk2 : k0 ≤ 1000000) (h : Rows w B U v (marksTo k0 xss xss.length)) :
    Calls Try.prog 20 #[v, .int .i64 k0] w fun e w' => e = .returned (.int .i64 (k0 + totN xss xss.length)) ∧ w = w' := by
  by_cases h0 : xss.length = 0
  · obtain rfl : xss = [] := List.eq_nil_of_length_eq_zero h0
    obtain ⟨A1, c1, rfl⟩ := h.shape
    clear h h0 hl
    go_enter Try.func20, Try.ntmps20
    go_wp2
    go_rounds 1
    go_ret
    exact ⟨ret_int (by simp [totN]), rfl⟩
  · obtain ⟨vs, k1⟩ := h
    have hL := marksTo_len k0 xss xss.length
    obtain ⟨g, c, rfl, _, lt1⟩ := k1.form (by rw [hL]; omega)
    have E1 : Hid (∀ i, i < xss.length → Row w B (vs.getD i (.slice none 0 0)) (marks (k0 + totN xss i) (xss.getD i []).length) ∧ w.cell? ⟨g, i, none⟩ = some (vs.getD i (.slice none 0 0))) := fun i hi => by
      have h1 := k1.row i (by rw [hL]; exact hi)
      rw [marksTo_at k0 xss hi hi] at h1
      exact ⟨h1, k1.cell (by rw [hL]; exact hi)⟩
    have HT : Hid (∀ i, totN xss i + (xss.getD i []).length = totN xss (i + 1)) := fun i => rfl
    have HM : Hid (∀ i, i ≤ xss.length → totN xss i ≤ 1048576) := fun i hi => Nat.le_trans (tot_mono xss hi) ht
    have HZ : Hid (totN xss 0 = 0) := rfl
    rw [hL]
    clear k1 h0 ht hL
    generalize totN xss = T at *
    go_enter Try.func20, Try.ntmps20
    go_wp2_with fail
    go_loop [1, 5] (fun q i => ∃ k : Nat, k ≤ xss.length ∧ i = .int .i64 k ∧ q = .int .i64 (k0 + (T k : Nat))) (fun _ i => xss.length - (intOf i).toNat)
    case atStart => exact ⟨0, Nat.zero_le _, rfl, by rw [HZ.out]; simp⟩
    case round =>
      obtain ⟨k, hk, rfl, rfl⟩ := hrel
      by_cases hlt : k < xss.length
      · obtain ⟨r1, q1⟩ := E1.out k hlt
        obtain ⟨A1, d1, e1⟩ := r1.shape
        rw [marks_len] at e1
        rw [e1] at r1 q1
        have HR1 := Lib.hid r1
        have ht : Hid (T k + (xss.getD k []).length = T (k + 1)) := HT.out k
        have t1 := HM.out k hk
        have t2 := HM.out (k + 1) hlt
        have t3 : (xss.getD k []).length ≤ 1048576 := by have := ht.out; omega
        clear r1 e1
        generalize xss.getD k [] = ys at *
        have b1 : (0 : Int) ≤ (k : Int) := by omega
        have b2 : (k : Int) < (xss.length : Int) := by omega
        have b3 : ¬ (k0 + (T k : Nat) + (ys.length : Int)) < 0 := by omega
        go_wp2_with fail
        refine (c_heldIntS _ B ys.length (k0 + (T k : Nat)) _ (by omega) (by omega) (by omega) HR1.out).mono ?_
        rintro e w2 ⟨rfl, rfl⟩
        go_wp2
        go_round
        case rel => exact ⟨k + 1, by omega, by go_num, by rw [← ht.out]; simp [Int.add_assoc]⟩
        case measure => simp [intOf]; omega
      · obtain rfl : k = xss.length := by omega
        go_wp2
        go_ret
        exact ⟨rfl, rfl⟩
end Go.Proofs.Ytlgbhemjckahhaa
