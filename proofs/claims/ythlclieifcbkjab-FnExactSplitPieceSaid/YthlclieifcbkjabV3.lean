/-
  Contracts: weights, their sums and the greatest one; the comparison of the program's shares.
-/
import Derived.Test.YthlclieifcbkjabV1
import Derived.Test.YthlclieifcbkjabV2
import Derived.Test.YthlclieifcbkjabM3
import Derived.Test.YthlclieifcbkjabT8
namespace Go.Proofs.Ythlclieifcbkjab
open Go.RowKit
set_option linter.unusedVariables false

/-- A list that has a first number, as cells. -/
theorem seen_at {w : World} {xs : List Int} {v : Value} (h : Seen w v xs) (h0 : 0 < xs.length) : ∃ b off c, v = .slice (some ⟨b, off, none⟩) xs.length c ∧ b < w.heap.size ∧ ∀ u, Below w.heap.size w u → ∀ j, j < xs.length → u.cell? ⟨b, off + j, none⟩ = some (.int .i64 (xs.getD j 0)) := by
  obtain ⟨A, c, rfl, _, hA⟩ := h
  obtain ⟨b, off, rfl, hb, hc⟩ := hA h0
  exact ⟨b, off, c, rfl, hb, fun u hu j hj => by rw [hu.cell (p := ⟨b, off + j, none⟩) hb]; exact hc j hj⟩
/-- Numbers that are not negative and not great. -/
def Mild (ws : List Int) (M : Int) : Prop := ∀ j, j < ws.length → 0 ≤ ws.getD j 0 ∧ ws.getD j 0 ≤ M
theorem sumTo_box {ws : List Int} {M : Int} (h : Mild ws M) : ∀ k, k ≤ ws.length → 0 ≤ sumTo ws k ∧ sumTo ws k ≤ M * (k : Int)
  | 0, _ => by simp [sumTo]
  | k + 1, hk => by
    have ih := sumTo_box h k (by omega)
    have := h k (by omega)
    have e : M * ((k + 1 : Nat) : Int) = M * (k : Int) + M := by rw [Int.natCast_add, Int.mul_add]; simp
    rw [sumTo, e]
    omega

set_option maxHeartbeats 2000000 in
theorem c_sbSum (ws : List Int) (v : Value) (w : World) (hl : ws.length ≤ 20) (hm : Mild ws 10000) (h : Seen w v ws) :
    Calls Try.prog 34 #[v] w fun e w' => e = .returned (.int .i64 (sumTo ws ws.length)) ∧ w = w' := by
  obtain ⟨A, c, rfl, _, hA⟩ := h
  have E1 : Hid (∀ k : Nat, k < ws.length → ∃ b off, A = some ⟨b, off, none⟩ ∧ w.cell? ⟨b, off + k, none⟩ = some (.int .i64 (ws.getD k 0))) := fun k hk => by
    obtain ⟨b, off, rfl, _, hc⟩ := hA (by omega)
    exact ⟨b, off, rfl, hc k hk⟩
  have EM : Hid (∀ j, j < ws.length → 0 ≤ ws.getD j 0 ∧ ws.getD j 0 ≤ 10000) := hm
  have EB : Hid (∀ k, k ≤ ws.length → 0 ≤ sumTo ws k ∧ sumTo ws k ≤ 200000) := fun k hk => by have := sumTo_box hm k hk; omega
  have ES : Hid (∀ k, sumTo ws (k + 1) = sumTo ws k + ws.getD k 0) := fun k => rfl
  have E0 : Hid (sumTo ws 0 = 0) := rfl
  clear hA hm
  generalize sumTo ws = F at *
  generalize ws.length = n at *
  go_enter Try.func34, Try.ntmps34
  go_wp2_with fail
  go_loop [3, 8] (fun q i => ∃ k : Nat, k ≤ n ∧ i = .int .i64 k ∧ q = .int .i64 (F k)) (fun _ i => n - (intOf i).toNat)
  case atStart => exact ⟨0, Nat.zero_le _, rfl, by rw [E0.out]⟩
  case round =>
    obtain ⟨k, hk, rfl, rfl⟩ := hrel
    obtain ⟨f0, f1⟩ := EB.out k hk
    by_cases hlt : k < n
    · obtain ⟨b, off, rfl, q0⟩ := E1.out k hlt
      obtain ⟨t0, t1⟩ := EM.out k hlt
      have X := Lib.hid (ES.out k)
      generalize ws.getD k 0 = t at *
      have b1 : (0 : Int) ≤ (k : Int) := by omega
      have b2 : (k : Int) < (n : Int) := by omega
      go_wp2
      go_round
      case rel => exact ⟨k + 1, by omega, by go_num, by rw [X.out]⟩
      case measure => simp [intOf]; omega
    · obtain rfl : k = n := by omega
      go_wp2
      go_ret
      exact ⟨rfl, rfl⟩

set_option maxHeartbeats 400000 in
theorem c_shares1 (x : Int) (w : World) : Calls Try.prog 49 #[.int .i64 x] w fun e w' => e = .returned (.int .i64 x) ∧ w = w' := by
  go_enter Try.func49, Try.ntmps49
  go_wp2
  go_ret
  exact ⟨rfl, rfl⟩

set_option maxHeartbeats 2000000 in
theorem c_sumOver (ws : List Int) (v : Value) (w : World) (hl : ws.length ≤ 20) (hm : Mild ws 10000) (h : Seen w v ws) :
    Calls Try.prog 48 #[v, .func (.func 49) #[] #[]] w fun e w' => e = .returned (.int .i64 (sumTo ws ws.length)) ∧ w = w' := by
  obtain ⟨A, c, rfl, _, hA⟩ := h
  have E1 : Hid (∀ k : Nat, k < ws.length → ∃ b off, A = some ⟨b, off, none⟩ ∧ w.cell? ⟨b, off + k, none⟩ = some (.int .i64 (ws.getD k 0))) := fun k hk => by
    obtain ⟨b, off, rfl, _, hc⟩ := hA (by omega)
    exact ⟨b, off, rfl, hc k hk⟩
  have EM : Hid (∀ j, j < ws.length → 0 ≤ ws.getD j 0 ∧ ws.getD j 0 ≤ 10000) := hm
  have EB : Hid (∀ k, k ≤ ws.length → 0 ≤ sumTo ws k ∧ sumTo ws k ≤ 200000) := fun k hk => by have := sumTo_box hm k hk; omega
  have ES : Hid (∀ k, sumTo ws (k + 1) = sumTo ws k + ws.getD k 0) := fun k => rfl
  have E0 : Hid (sumTo ws 0 = 0) := rfl
  clear hA hm
  generalize sumTo ws = F at *
  generalize ws.length = n at *
  go_enter Try.func48, Try.ntmps48
  go_wp2_with fail
  go_loop [5, 10] (fun q i => ∃ k : Nat, k ≤ n ∧ i = .int .i64 k ∧ q = .int .i64 (F k)) (fun _ i => n - (intOf i).toNat)
  case atStart => exact ⟨0, Nat.zero_le _, rfl, by rw [E0.out]⟩
  case round =>
    obtain ⟨k, hk, rfl, rfl⟩ := hrel
    obtain ⟨f0, f1⟩ := EB.out k hk
    by_cases hlt : k < n
    · obtain ⟨b, off, rfl, q0⟩ := E1.out k hlt
      obtain ⟨t0, t1⟩ := EM.out k hlt
      have X := Lib.hid (ES.out k)
      generalize ws.getD k 0 = t at *
      have b1 : (0 : Int) ≤ (k : Int) := by omega
      have b2 : (k : Int) < (n : Int) := by omega
      go_wp2_with fail
      refine (c_shares1 _ _).mono ?_
      rintro e w2 ⟨rfl, rfl⟩
      go_wp2
      go_round
      case rel => exact ⟨k + 1, by omega, by go_num, by rw [X.out]⟩
      case measure => simp [intOf]; omega
    · obtain rfl : k = n := by omega
      go_wp2
      go_ret
      exact ⟨rfl, rfl⟩

/-- The greatest of the first numbers. -/
def maxTo (ws : List Int) : Nat → Int
  | 0 => ws.getD 0 0
  | k + 1 => max (maxTo ws k) (ws.getD k 0)
theorem maxTo_pos {ws : List Int} {M : Int} (h : Mild ws M) (h0 : 0 < ws.length) : ∀ k, k ≤ ws.length → 0 < k → 0 ≤ maxTo ws k ∧ (0 < maxTo ws k ↔ sumTo ws k ≠ 0)
  | 1, _, _ => by
    have := h 0 h0
    simp only [maxTo, sumTo]
    omega
  | k + 2, hk, _ => by
    have ih := maxTo_pos h h0 (k + 1) (by omega) (by omega)
    have := h (k + 1) (by omega)
    have := sumTo_box h (k + 1) (by omega)
    rw [maxTo, sumTo]
    omega

set_option maxHeartbeats 2000000 in
theorem c_Max (ws : List Int) (v : Value) (w : World) (hl : ws.length ≤ 20) (h0 : 0 < ws.length) (hm : Mild ws 10000) (h : Seen w v ws) :
    Calls Try.prog 47 #[v] w fun e w' => e = .returned (.int .i64 (maxTo ws ws.length)) ∧ w = w' := by
  obtain ⟨b, off, c, rfl, hb, hcell⟩ := seen_at h h0
  have E1 : Hid (∀ k : Nat, k < ws.length → w.cell? ⟨b, off + k, none⟩ = some (.int .i64 (ws.getD k 0))) := fun k hk => hcell w (Below.refl _ _) k hk
  have EM : Hid (∀ j, j < ws.length → 0 ≤ ws.getD j 0 ∧ ws.getD j 0 ≤ 10000) := hm
  have ES : Hid (∀ k, maxTo ws (k + 1) = max (maxTo ws k) (ws.getD k 0)) := fun k => rfl
  have E0 : Hid (maxTo ws 1 = ws.getD 0 0) := by show _ = _; simp [maxTo]
  have q00 := E1.out 0 h0
  rw [Nat.add_zero] at q00
  clear hcell h hm
  generalize maxTo ws = F at *
  generalize ws.length = n at *
  have n1 : ¬ (n : Int) < 1 := by omega
  have n2 : (0 : Int) < (n : Int) := by omega
  have e00 := E0.out
  rw [← e00] at q00
  clear e00
  go_enter Try.func47, Try.ntmps47
  go_wp2_with fail
  go_loop [3, 4] (fun q i => ∃ k : Nat, 1 ≤ k ∧ k ≤ n ∧ i = .int .i64 k ∧ q = .int .i64 (F k)) (fun _ i => n - (intOf i).toNat)
  case atStart => exact ⟨1, Nat.le_refl _, by omega, rfl, rfl⟩
  case round =>
    obtain ⟨k, hk1, hk, rfl, rfl⟩ := hrel
    by_cases hlt : k < n
    · have q0 := E1.out k hlt
      have X := Lib.hid (ES.out k)
      generalize ws.getD k 0 = t at *
      have b1 : (0 : Int) ≤ (k : Int) := by omega
      have b2 : (k : Int) < (n : Int) := by omega
      clear q00
      by_cases hd : F k ≤ t
      · have X2 : Hid (F (k + 1) = t) := by have := X.out; show _ = _; omega
        go_wp2
        go_round
        case rel => exact ⟨k + 1, by omega, by omega, by go_num, by rw [X2.out]; congr 1; omega⟩
        case measure => simp [intOf]; omega
      · have X2 : Hid (F (k + 1) = F k) := by have := X.out; show _ = _; omega
        go_wp2
        go_round
        case rel => exact ⟨k + 1, by omega, by omega, by go_num, by rw [X2.out]; congr 1; omega⟩
        case measure => simp [intOf]; omega
    · obtain rfl : k = n := by omega
      go_wp2
      go_ret
      exact ⟨rfl, rfl⟩
end Go.Proofs.Ythlclieifcbkjab
