/-
Contracts: values (one number within a million for each block), in the program and in the model of it.
Contracts: the sum of the values of a list of blocks, in the program and in the model of it.
Contract: the ore of a list of values, in the model.
-/
import Derived.Test.YtoakpepoopjlaaaM6
import Derived.Test.YtoakpepoopjlaaaNR
namespace Go.Proofs.Ytoakpepoopjlaaa
open Go.RowKit
set_option linter.unusedVariables false

def wAll (xs : List Int) : Bool := xs.all fun t => decide (-1000000 ≤ t ∧ t ≤ 1000000)
theorem wall_false {xs : List Int} {k : Nat} (hk : k < xs.length) (h : ¬ (-1000000 ≤ xs.getD k 0 ∧ xs.getD k 0 ≤ 1000000)) : wAll xs = false := by
  unfold wAll
  rw [List.all_eq_false]
  exact ⟨_, getD_mem hk, by simpa using h⟩
theorem wall_true {xs : List Int} (h : ∀ k : Nat, k < xs.length → -1000000 ≤ xs.getD k 0 ∧ xs.getD k 0 ≤ 1000000) : wAll xs = true := by
  unfold wAll
  rw [List.all_eq_true]
  intro t ht
  obtain ⟨k, hk, rfl⟩ := List.mem_iff_getElem.1 ht
  have := h k hk
  rw [List.getD_eq_getElem?_getD, List.getElem?_eq_getElem hk] at this
  simpa using this
theorem wall_at {xs : List Int} (h : wAll xs = true) {k : Nat} (hk : k < xs.length) : -1000000 ≤ xs.getD k 0 ∧ xs.getD k 0 ≤ 1000000 := by
  unfold wAll at h
  rw [List.all_eq_true] at h
  simpa using h _ (getD_mem hk)
/-- Values of n blocks. -/
def valB (n : Int) (xs : List Int) : Bool := decide ((xs.length : Int) = n) && (decide (1 ≤ n ∧ n ≤ 120) && wAll xs)
theorem val_yes {n : Int} {xs : List Int} (h : valB n xs = true) : (xs.length : Int) = n ∧ 1 ≤ n ∧ n ≤ 120 ∧ wAll xs = true := by
  unfold valB at h
  simp only [Bool.and_eq_true, decide_eq_true_eq] at h
  exact ⟨h.1, h.2.1.1, h.2.1.2, h.2.2⟩

set_option maxHeartbeats 400000 in
theorem c_isWorth (t : Int) (w : World) : Calls Try.prog 107 #[.int .i64 t] w fun e w' => e = .returned (.bool (decide (-1000000 ≤ t ∧ t ≤ 1000000))) ∧ w = w' := by
  by_cases t1 : -1000000 ≤ t
  · by_cases t2 : t ≤ 1000000
    · rw [decide_eq_true ⟨t1, t2⟩]
      go_enter Try.func107, Try.ntmps107
      go_wp2
      go_ret
      exact ⟨rfl, rfl⟩
    · rw [decide_eq_false (by omega)]
      go_enter Try.func107, Try.ntmps107
      go_wp2
      go_ret
      exact ⟨rfl, rfl⟩
  · rw [decide_eq_false (by omega)]
    go_enter Try.func107, Try.ntmps107
    go_wp2
    go_ret
    exact ⟨rfl, rfl⟩

set_option maxHeartbeats 1000000 in
theorem c_AreValues (xs : List Int) (v : Value) (m : Int) (w : World) (hl : xs.length ≤ 4000000) (h : Seen w v xs) :
    Calls Try.prog 97 #[v, .int .i64 m] w fun e w' => e = .returned (.bool (valB m xs)) ∧ w = w' := by
  obtain ⟨A, c, rfl, hm, hA⟩ := h
  clear hm
  unfold valB
  by_cases hn : 1 ≤ m ∧ m ≤ 120
  case neg =>
    rw [decide_eq_false hn, Bool.false_and, Bool.and_false]
    clear hA
    generalize xs.length = n at *
    by_cases h1 : m < 1
    · go_enter Try.func97, Try.ntmps97
      go_wp2
      go_ret
      exact ⟨rfl, rfl⟩
    · have h2 : 120 < m := by omega
      go_enter Try.func97, Try.ntmps97
      go_wp2
      go_ret
      exact ⟨rfl, rfl⟩
  case pos =>
  rw [decide_eq_true hn, Bool.true_and]
  obtain ⟨n1, n2⟩ := hn
  by_cases hq : (xs.length : Int) = m
  · subst hq
    rw [decide_eq_true rfl, Bool.true_and]
    obtain ⟨b, off, rfl, hb, hc⟩ := hA (by omega)
    have E1 : Hid (∀ k : Nat, k < xs.length → w.cell? ⟨b, off + k, none⟩ = some (.int .i64 (xs.getD k 0))) := hc
    have F1 : Hid (∀ k : Nat, k < xs.length → ¬ (-1000000 ≤ xs.getD k 0 ∧ xs.getD k 0 ≤ 1000000) → wAll xs = false) := fun k hk h => wall_false hk h
    have F2 : Hid ((∀ k : Nat, k < xs.length → -1000000 ≤ xs.getD k 0 ∧ xs.getD k 0 ≤ 1000000) → wAll xs = true) := wall_true
    clear hA hc hb
    generalize wAll xs = R at *
    have hne : ((xs.length : Int) != (xs.length : Int)) = false := by simp
    generalize xs.length = n at *
    go_enter Try.func97, Try.ntmps97
    go_wp2_with fail
    go_loop [21] (fun i => ∃ k : Nat, k ≤ n ∧ i = .int .i64 k ∧ Hid (∀ j : Nat, j < k → -1000000 ≤ xs.getD j 0 ∧ xs.getD j 0 ≤ 1000000)) (fun i => n - (intOf i).toNat)
    case atStart => exact ⟨0, Nat.zero_le _, rfl, fun j hj => by omega⟩
    case round =>
      obtain ⟨k, hk, rfl, HK⟩ := hrel
      by_cases hlt : k < n
      · have q1 := E1.out k hlt
        have f1 : Hid (¬ (-1000000 ≤ xs.getD k 0 ∧ xs.getD k 0 ≤ 1000000) → R = false) := F1.out k hlt
        have G1 : Hid ((-1000000 ≤ xs.getD k 0 ∧ xs.getD k 0 ≤ 1000000) → ∀ j : Nat, j < k + 1 → -1000000 ≤ xs.getD j 0 ∧ xs.getD j 0 ≤ 1000000) := fun h j hj => by
          by_cases e : j = k
          · rw [e]; exact h
          · exact HK.out j (by omega)
        generalize xs.getD k 0 = t at q1 f1 G1
        have b1 : (0 : Int) ≤ (k : Int) := by omega
        have b2 : (k : Int) < (n : Int) := by omega
        go_wp2_with fail
        refine (c_isWorth _ _).mono ?_
        rintro e w1 ⟨rfl, rfl⟩
        by_cases ht : -1000000 ≤ t ∧ t ≤ 1000000
        · rw [decide_eq_true ht]
          have G2 := Lib.hid (G1.out ht)
          clear ht
          go_wp2
          go_round
          case rel => exact ⟨k + 1, by omega, by go_num, G2⟩
          case measure => simp [intOf]; omega
        · rw [decide_eq_false ht]
          have G2 := Lib.hid (f1.out ht)
          clear ht
          go_wp2
          go_ret
          exact ⟨ret_bool G2.out.symm, rfl⟩
      · obtain rfl : k = n := by omega
        go_wp2
        go_ret
        exact ⟨ret_bool (F2.out HK.out).symm, rfl⟩
  · rw [decide_eq_false hq, Bool.false_and]
    have hq' : ((xs.length : Int) != m) = true := by simpa using hq
    clear hA
    generalize xs.length = n at *
    go_enter Try.func97, Try.ntmps97
    go_wp2
    go_ret
    exact ⟨rfl, rfl⟩

set_option maxHeartbeats 1000000 in
theorem c_l1AllW (xs : List Int) (v : Value) (w : World) (hl : xs.length ≤ 4000000) (h : Seen w v xs) :
    Calls Try.prog 74 #[v, .int .i64 (-1000000), .int .i64 1000000] w fun e w' => e = .returned (.bool (wAll xs)) ∧ w = w' := by
  obtain ⟨A, c, rfl, hm, hA⟩ := h
  clear hm
  by_cases h0 : xs.length = 0
  · obtain rfl : xs = [] := List.eq_nil_of_length_eq_zero h0
    clear hA h0 hl
    simp only [List.length_nil]
    go_enter Try.func74, Try.ntmps74
    go_wp2
    go_rounds 1
    go_ret
    exact ⟨rfl, rfl⟩
  · obtain ⟨b, off, rfl, hb, hc⟩ := hA (by omega)
    have E1 : Hid (∀ k : Nat, k < xs.length → w.cell? ⟨b, off + k, none⟩ = some (.int .i64 (xs.getD k 0))) := hc
    have F1 : Hid (∀ k : Nat, k < xs.length → ¬ (-1000000 ≤ xs.getD k 0 ∧ xs.getD k 0 ≤ 1000000) → wAll xs = false) := fun k hk h => wall_false hk h
    have F2 : Hid ((∀ k : Nat, k < xs.length → -1000000 ≤ xs.getD k 0 ∧ xs.getD k 0 ≤ 1000000) → wAll xs = true) := wall_true
    clear hA hc hb
    generalize wAll xs = R at *
    generalize xs.length = n at *
    go_enter Try.func74, Try.ntmps74
    go_wp2_with fail
    go_loop [11] (fun i => ∃ k : Nat, k ≤ n ∧ i = .int .i64 k ∧ Hid (∀ j : Nat, j < k → -1000000 ≤ xs.getD j 0 ∧ xs.getD j 0 ≤ 1000000)) (fun i => n - (intOf i).toNat)
    case atStart => exact ⟨0, Nat.zero_le _, rfl, fun j hj => by omega⟩
    case round =>
      obtain ⟨k, hk, rfl, HK⟩ := hrel
      by_cases hlt : k < n
      · have q1 := E1.out k hlt
        have f1 : Hid (¬ (-1000000 ≤ xs.getD k 0 ∧ xs.getD k 0 ≤ 1000000) → R = false) := F1.out k hlt
        have G1 : Hid ((-1000000 ≤ xs.getD k 0 ∧ xs.getD k 0 ≤ 1000000) → ∀ j : Nat, j < k + 1 → -1000000 ≤ xs.getD j 0 ∧ xs.getD j 0 ≤ 1000000) := fun h j hj => by
          by_cases e : j = k
          · rw [e]; exact h
          · exact HK.out j (by omega)
        generalize xs.getD k 0 = t at q1 f1 G1
        have b1 : (0 : Int) ≤ (k : Int) := by omega
        have b2 : (k : Int) < (n : Int) := by omega
        go_wp2_with fail
        refine (c_l1In _ _ _ _).mono ?_
        rintro e w1 ⟨rfl, rfl⟩
        by_cases ht : -1000000 ≤ t ∧ t ≤ 1000000
        · rw [decide_eq_true ht]
          have G2 := Lib.hid (G1.out ht)
          clear ht
          go_wp2
          go_round
          case rel => exact ⟨k + 1, by omega, by go_num, G2⟩
          case measure => simp [intOf]; omega
        · rw [decide_eq_false ht]
          have G2 := Lib.hid (f1.out ht)
          clear ht
          go_wp2
          go_ret
          exact ⟨ret_bool G2.out.symm, rfl⟩
      · obtain rfl : k = n := by omega
        go_wp2
        go_ret
        exact ⟨ret_bool (F2.out HK.out).symm, rfl⟩

end Go.Proofs.Ytoakpepoopjlaaa

namespace Go.Proofs.Ytoakpepoopjlaaa
open Go.RowKit
set_option linter.unusedVariables false

theorem sumN_abs {f : Nat → Int} {n : Nat} (h : ∀ k : Nat, k < n → -1000000 ≤ f k ∧ f k ≤ 1000000) : ∀ k : Nat, k ≤ n → -(1000000 * (k : Int)) ≤ sumN f k ∧ sumN f k ≤ 1000000 * k
  | 0, _ => by simp [sumN]
  | k + 1, hk => by
    have h1 := sumN_abs h k (by omega)
    have h2 := h k (by omega)
    rw [sumN_succ]
    omega

/-- The value of the block at place j of a list. -/
def valF (xs bs : List Int) (j : Nat) : Int := xs.getD (bs.getD j 0).toNat 0
def sumvB (xs bs : List Int) : Bool := valB xs.length xs && risB xs.length bs
def sumvV (xs bs : List Int) : Int := if sumvB xs bs then sumN (valF xs bs) bs.length else 0
theorem sumv_at {n : Int} {xs bs : List Int} (h1 : valB n xs = true) (h2 : risB n bs = true) {j : Nat} (hj : j < bs.length) : ∃ k : Nat, bs.getD j 0 = (k : Int) ∧ k < xs.length ∧ valF xs bs j = xs.getD k 0 := by
  obtain ⟨e, _, _, _⟩ := val_yes h1
  obtain ⟨a, b⟩ := ris_box h2 hj
  exact ⟨(bs.getD j 0).toNat, by omega, by omega, rfl⟩
theorem valF_box {n : Int} {xs bs : List Int} (h1 : valB n xs = true) (h2 : risB n bs = true) {j : Nat} (hj : j < bs.length) : -1000000 ≤ valF xs bs j ∧ valF xs bs j ≤ 1000000 := by
  obtain ⟨k, _, hk, e⟩ := sumv_at h1 h2 hj
  rw [e]
  exact wall_at (val_yes h1).2.2.2 hk
theorem vlen {n : Int} {xs bs : List Int} (h1 : valB n xs = true) (h2 : risB n bs = true) : bs.length ≤ 120 := by
  obtain ⟨_, a, b, _⟩ := val_yes h1
  have := ris_len h2 (by omega)
  omega

set_option maxHeartbeats 1000000 in
theorem c_vaSum (xs : List Int) (u1 : Value) (bs : List Int) (u2 : Value) (n : Int) (w : World) (l1 : xs.length ≤ 4000000) (l2 : bs.length ≤ 4000000) (h1 : Seen w u1 xs) (h2 : Seen w u2 bs) (hv : valB n xs = true) (hr : risB n bs = true) :
    Calls Try.prog 63 #[u1, u2] w fun e w' => e = .returned (.int .i64 (sumN (valF xs bs) bs.length)) ∧ w = w' := by
  have l3 := vlen hv hr
  have E1 : Hid (∀ j : Nat, j < bs.length → ∃ (k b off : Nat), bs.getD j 0 = (k : Int) ∧ k < xs.length ∧ (∃ c, u1 = .slice (some ⟨b, off, none⟩) xs.length c) ∧ w.cell? ⟨b, off + k, none⟩ = some (.int .i64 (valF xs bs j))) := fun j hj => by
    obtain ⟨k, e, hk, ev⟩ := sumv_at hv hr hj
    obtain ⟨b, off, c, rfl, _, hc⟩ := h1.at_ hk
    exact ⟨k, b, off, e, hk, ⟨c, rfl⟩, by rw [ev]; exact hc⟩
  have F1 : Hid (∀ k : Nat, k ≤ bs.length → -(1000000 * (k : Int)) ≤ sumN (valF xs bs) k ∧ sumN (valF xs bs) k ≤ 1000000 * k) := sumN_abs (fun j hj => valF_box hv hr hj)
  have F2 : Hid (∀ k : Nat, k < bs.length → -1000000 ≤ valF xs bs k ∧ valF xs bs k ≤ 1000000) := fun j hj => valF_box hv hr hj
  have F3 : Hid (∀ k : Nat, sumN (valF xs bs) k + valF xs bs k = sumN (valF xs bs) (k + 1)) := fun k => rfl
  have F0 : Hid (sumN (valF xs bs) 0 = 0) := rfl
  obtain ⟨A1, c1, rfl⟩ := h1.shape
  obtain ⟨A, c, rfl, hm, hA⟩ := h2
  clear hm h1 hv hr
  have E2 : Hid (∀ k : Nat, k < bs.length → ∃ b off, A = some ⟨b, off, none⟩ ∧ w.cell? ⟨b, off + k, none⟩ = some (.int .i64 (bs.getD k 0))) := fun k hk => by
    obtain ⟨b, off, rfl, hb, hc⟩ := hA (by omega)
    exact ⟨b, off, rfl, hc k hk⟩
  clear hA
  generalize valF xs bs = f at *
  generalize sumN f = S at *
  generalize hn : bs.length = n2 at *
  clear hn
  generalize hn : xs.length = n1 at *
  clear hn
  go_enter Try.func63, Try.ntmps63
  go_wp2_with fail
  go_loop [5, 10] (fun q i => ∃ k : Nat, k ≤ n2 ∧ i = .int .i64 k ∧ q = .int .i64 (S k)) (fun _ i => n2 - (intOf i).toNat)
  case atStart => exact ⟨0, Nat.zero_le _, rfl, by rw [F0.out]⟩
  case round =>
    obtain ⟨k, hk, rfl, rfl⟩ := hrel
    by_cases hlt : k < n2
    · obtain ⟨b, off, rfl, q1⟩ := E2.out k hlt
      obtain ⟨i, b', off', e1, hi, ⟨c', e2⟩, q2⟩ := E1.out k hlt
      simp only [Value.slice.injEq] at e2
      obtain ⟨rfl, _, _⟩ := e2
      rw [e1] at q1
      obtain ⟨s0, s1⟩ := F1.out k hk
      obtain ⟨t0, t1⟩ := F2.out k hlt
      have f3 : Hid (S k + f k = S (k + 1)) := F3.out k
      clear e1
      generalize f k = t at *
      generalize S k = s at *
      have b1 : (0 : Int) ≤ (k : Int) := by omega
      have b2 : (k : Int) < (n2 : Int) := by omega
      have b3 : s ≤ 4000000000000 := by omega
      have b4 : -4000000000000 ≤ s := by omega
      have b5 : (0 : Int) ≤ (i : Int) := by omega
      have b6 : (i : Int) < (n1 : Int) := by omega
      clear s0 s1
      go_wp2
      go_round
      case rel => exact ⟨k + 1, by omega, by go_num, by rw [← f3.out]⟩
      case measure => simp [intOf]; omega
    · obtain rfl : k = n2 := by omega
      go_wp2
      go_ret
      exact ⟨rfl, rfl⟩

end Go.Proofs.Ytoakpepoopjlaaa

namespace Go.Proofs.Ytoakpepoopjlaaa
open Go.RowKit
set_option linter.unusedVariables false

end Go.Proofs.Ytoakpepoopjlaaa
