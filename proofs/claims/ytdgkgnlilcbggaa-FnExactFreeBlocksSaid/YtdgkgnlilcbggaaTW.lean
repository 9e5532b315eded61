/-
Contracts: values (one number within a million for each block), in the program and in the model of it.
Contracts: the sum of the values of a list of blocks, in the program and in the model of it.
Contract: the ore of a list of values, in the model.
-/
import Derived.Test.YtdgkgnlilcbggaaM6
import Derived.Test.YtdgkgnlilcbggaaNR
namespace Go.Proofs.Ytdgkgnlilcbggaa
open Go.RowKit
set_option linter.unusedVariables false

def wAll (xs : List Int) : Bool := xs.all fun t => decide (-1000000 ≤ t ∧ t ≤ 1000000)
theorem wall_false {xs : List Int} {k : Nat} (hk : k < xs.length) (h : ¬ (-1000000 ≤ xs.getD k 0 ∧ xs.getD k 0 ≤ 1000000)) : wAll xs = false := by
  unfold wAll
  rw [List.all_eq_false]
  exact ⟨_, getD_mem hk, by simpa using h⟩
theorem wall_true {xs : List Int} (h : ∀ k : Nat, k < xs.length → -1000000 ≤ xs.getD k 0 ∧ xs.getD k 0 ≤ 1000000) : wAll xs = true := by
  unfold wAll
  rw [List.all_eq_true]
  intro t ht
  obtain ⟨k, hk, rfl⟩ := List.mem_iff_getElem.1 ht
  have := h k hk
  rw [List.getD_eq_getElem?_getD, List.getElem?_eq_getElem hk] at this
  simpa using this
theorem wall_at {xs : List Int} (h : wAll xs = true) {k : Nat} (hk : k < xs.length) : -1000000 ≤ xs.getD k 0 ∧ xs.getD k 0 ≤ 1000000 := by
  unfold wAll at h
  rw [List.all_eq_true] at h
  simpa using h _ (getD_mem hk)
/-- Values of n blocks. -/
def valB (n : Int) (xs : List Int) : Bool := decide ((xs.length : Int) = n) && (decide (1 ≤ n ∧ n ≤ 120) && wAll xs)
theorem val_yes {n : Int} {xs : List Int} (h : valB n xs = true) : (xs.length : Int) = n ∧ 1 ≤ n ∧ n ≤ 120 ∧ wAll xs = true := by
  unfold valB at h
  simp only [Bool.and_eq_true, decide_eq_true_eq] at h
  exact ⟨h.1, h.2.1.1, h.2.1.2, h.2.2⟩

set_option maxHeartbeats 400000 in
theorem c_isWorth (t : Int) (w : World) : Calls Try.prog 66 #[.int .i64 t] w fun e w' => e = .returned (.bool (decide (-1000000 ≤ t ∧ t ≤ 1000000))) ∧ w = w' := by
  by_cases t1 : -1000000 ≤ t
  · by_cases t2 : t ≤ 1000000
    · rw [decide_eq_true ⟨t1, t2⟩]
      go_enter Try.func66, Try.ntmps66
      go_wp2
      go_ret
      exact ⟨rfl, rfl⟩
    · rw [decide_eq_false (by omega)]
      go_enter Try.func66, Try.ntmps66
      go_wp2
      go_ret
      exact ⟨rfl, rfl⟩
  · rw [decide_eq_false (by omega)]
    go_enter Try.func66, Try.ntmps66
    go_wp2
    go_ret
    exact ⟨rfl, rfl⟩

set_option maxHeartbeats 1000000 in
theorem c_AreValues (xs : List Int) (v : Value) (m : Int) (w : World) (hl : xs.length ≤ 4000000) (h : Seen w v xs) :
    Calls Try.prog 51 #[v, .int .i64 m] w fun e w' => e = .returned (.bool (valB m xs)) ∧ w = w' := by
  obtain ⟨A, c, rfl, hm, hA⟩ := h
  clear hm
  unfold valB
  by_cases hn : 1 ≤ m ∧ m ≤ 120
  case neg =>
    rw [decide_eq_false hn, Bool.false_and, Bool.and_false]
    clear hA
    generalize xs.length = n at *
    by_cases h1 : m < 1
    · go_enter Try.func51, Try.ntmps51
      go_wp2
      go_ret
      exact ⟨rfl, rfl⟩
    · have h2 : 120 < m := by omega
      go_enter Try.func51, Try.ntmps51
      go_wp2
      go_ret
      exact ⟨rfl, rfl⟩
  case pos =>
  rw [decide_eq_true hn, Bool.true_and]
  obtain ⟨n1, n2⟩ := hn
  by_cases hq : (xs.length : Int) = m
  · subst hq
    rw [decide_eq_true rfl, Bool.true_and]
    obtain ⟨b, off, rfl, hb, hc⟩ := hA (by omega)
    have E1 : Hid (∀ k : Nat, k < xs.length → w.cell? ⟨b, off + k, none⟩ = some (.int .i64 (xs.getD k 0))) := hc
    have F1 : Hid (∀ k : Nat, k < xs.length → ¬ (-1000000 ≤ xs.getD k 0 ∧ xs.getD k 0 ≤ 1000000) → wAll xs = false) := fun k hk h => wall_false hk h
    have F2 : Hid ((∀ k : Nat, k < xs.length → -1000000 ≤ xs.getD k 0 ∧ xs.getD k 0 ≤ 1000000) → wAll xs = true) := wall_true
    clear hA hc hb
    generalize wAll xs = R at *
    have hne : ((xs.length : Int) != (xs.length : Int)) = false := by simp
    generalize xs.length = n at *
    go_enter Try.func51, Try.ntmps51
    go_wp2_with fail
    go_loop [21] (fun i => ∃ k : Nat, k ≤ n ∧ i = .int .i64 k ∧ Hid (∀ j : Nat, j < k → -1000000 ≤ xs.getD j 0 ∧ xs.getD j 0 ≤ 1000000)) (fun i => n - (intOf i).toNat)
    case atStart => exact ⟨0, Nat.zero_le _, rfl, fun j hj => by omega⟩
    case round =>
      obtain ⟨k, hk, rfl, HK⟩ := hrel
      by_cases hlt : k < n
      · have q1 := E1.out k hlt
        have f1 : Hid (¬ (-1000000 ≤ xs.getD k 0 ∧ xs.getD k 0 ≤ 1000000) → R = false) := F1.out k hlt
        have G1 : Hid ((-1000000 ≤ xs.getD k 0 ∧ xs.getD k 0 ≤ 1000000) → ∀ j : Nat, j < k + 1 → -1000000 ≤ xs.getD j 0 ∧ xs.getD j 0 ≤ 1000000) := fun h j hj => by
          by_cases e : j = k
          · rw [e]; exact h
          · exact HK.out j (by omega)
        generalize xs.getD k 0 = t at q1 f1 G1
        have b1 : (0 : Int) ≤ (k : Int) := by omega
        have b2 : (k : Int) < (n : Int) := by omega
        go_wp2_with fail
        refine (c_isWorth _ _).mono ?_
        rintro e w1 ⟨rfl, rfl⟩
        by_cases ht : -1000000 ≤ t ∧ t ≤ 1000000
        · rw [decide_eq_true ht]
          have G2 := Lib.hid (G1.out ht)
          clear ht
          go_wp2
          go_round
          case rel => exact ⟨k + 1, by omega, by go_num, G2⟩
          case measure => simp [intOf]; omega
        · rw [decide_eq_false ht]
          have G2 := Lib.hid (f1.out ht)
          clear ht
          go_wp2
          go_ret
          exact ⟨ret_bool G2.out.symm, rfl⟩
      · obtain rfl : k = n := by omega
        go_wp2
        go_ret
        exact ⟨ret_bool (F2.out HK.out).symm, rfl⟩
  · rw [decide_eq_false hq, Bool.false_and]
    have hq' : ((xs.length : Int) != m) = true := by simpa using hq
    clear hA
    generalize xs.length = n at *
    go_enter Try.func51, Try.ntmps51
    go_wp2
    go_ret
    exact ⟨rfl, rfl⟩

set_option maxHeartbeats 1000000 in
theorem c_l1AllW (xs : List Int) (v : Value) (w : World) (hl : xs.length ≤ 4000000) (h : Seen w v xs) :
    Calls Try.prog 35 #[v, .int .i64 (-1000000), .int .i64 1000000] w fun e w' => e = .returned (.bool (wAll xs)) ∧ w = w' := by
  obtain ⟨A, c, rfl, hm, hA⟩ := h
  clear hm
  by_cases h0 : xs.length = 0
  · obtain rfl : xs = [] := List.eq_nil_of_length_eq_zero h0
    clear hA h0 hl
    simp only [List.length_nil]
    go_enter Try.func35, Try.ntmps35
    go_wp2
    go_rounds 1
    go_ret
    exact ⟨rfl, rfl⟩
  · obtain ⟨b, off, rfl, hb, hc⟩ := hA (by omega)
    have E1 : Hid (∀ k : Nat, k < xs.length → w.cell? ⟨b, off + k, none⟩ = some (.int .i64 (xs.getD k 0))) := hc
    have F1 : Hid (∀ k : Nat, k < xs.length → ¬ (-1000000 ≤ xs.getD k 0 ∧ xs.getD k 0 ≤ 1000000) → wAll xs = false) := fun k hk h => wall_false hk h
    have F2 : Hid ((∀ k : Nat, k < xs.length → -1000000 ≤ xs.getD k 0 ∧ xs.getD k 0 ≤ 1000000) → wAll xs = true) := wall_true
    clear hA hc hb
    generalize wAll xs = R at *
    generalize xs.length = n at *
    go_enter Try.func35, Try.ntmps35
    go_wp2_with fail
    go_loop [11] (fun i => ∃ k : Nat, k ≤ n ∧ i = .int .i64 k ∧ Hid (∀ j : Nat, j < k → -1000000 ≤ xs.getD j 0 ∧ xs.getD j 0 ≤ 1000000)) (fun i => n - (intOf i).toNat)
    case atStart => exact ⟨0, Nat.zero_le _, rfl, fun j hj => by omega⟩
    case round =>
      obtain ⟨k, hk, rfl, HK⟩ := hrel
      by_cases hlt : k < n
      · have q1 := E1.out k hlt
        have f1 : Hid (¬ (-1000000 ≤ xs.getD k 0 ∧ xs.getD k 0 ≤ 1000000) → R = false) := F1.out k hlt
        have G1 : Hid ((-1000000 ≤ xs.getD k 0 ∧ xs.getD k 0 ≤ 1000000) → ∀ j : Nat, j < k + 1 → -1000000 ≤ xs.getD j 0 ∧ xs.getD j 0 ≤ 1000000) := fun h j hj => by
          by_cases e : j = k
          · rw [e]; exact h
          · exact HK.out j (by omega)
        generalize xs.getD k 0 = t at q1 f1 G1
        have b1 : (0 : Int) ≤ (k : Int) := by omega
        have b2 : (k : Int) < (n : Int) := by omega
        go_wp2_with fail
        refine (c_l1In _ _ _ _).mono ?_
        rintro e w1 ⟨rfl, rfl⟩
        by_cases ht : -1000000 ≤ t ∧ t ≤ 1000000
        · rw [decide_eq_true ht]
          have G2 := Lib.hid (G1.out ht)
          clear ht
          go_wp2
          go_round
          case rel => exact ⟨k + 1, by omega, by go_num, G2⟩
          case measure => simp [intOf]; omega
        · rw [decide_eq_false ht]
          have G2 := Lib.hid (f1.out ht)
          clear ht
          go_wp2
          go_ret
          exact ⟨ret_bool G2.out.symm, rfl⟩
      · obtain rfl : k = n := by omega
        go_wp2
        go_ret
        exact ⟨ret_bool (F2.out HK.out).symm, rfl⟩

set_option maxHeartbeats 1000000 in
theorem c_vaGood (xs : List Int) (v : Value) (m : Int) (w : World) (hl : xs.length ≤ 4000000) (h : Seen w v xs) :
    Calls Try.prog 23 #[v, .int .i64 m] w fun e w' => e = .returned (.bool (valB m xs)) ∧ w = w' := by
  have H1 := Lib.hid (c_l1AllW xs v w hl h)
  obtain ⟨A, c, rfl⟩ := h.shape
  clear h
  unfold valB
  by_cases hq : (xs.length : Int) = m
  · subst hq
    rw [decide_eq_true rfl, Bool.true_and]
    have hq' : ((xs.length : Int) == (xs.length : Int)) = true := by simp
    by_cases hn : (1 : Int) ≤ (xs.length : Int) ∧ (xs.length : Int) ≤ 120
    · have H2 := Lib.hid (decide_eq_true hn)
      rw [decide_eq_true hn, Bool.true_and]
      clear hn
      generalize wAll xs = R at *
      generalize xs.length = n at *
      go_enter Try.func23, Try.ntmps23
      go_wp2_with fail
      refine (c_l1In _ _ _ _).mono ?_
      rintro e w1 ⟨rfl, rfl⟩
      rw [H2.out]
      go_wp2_with fail
      refine H1.out.mono ?_
      rintro e w1 ⟨rfl, rfl⟩
      go_wp2
      go_ret
      exact ⟨rfl, rfl⟩
    · have H2 := Lib.hid (decide_eq_false hn)
      rw [decide_eq_false hn, Bool.false_and]
      clear hn H1
      generalize xs.length = n at *
      go_enter Try.func23, Try.ntmps23
      go_wp2_with fail
      refine (c_l1In _ _ _ _).mono ?_
      rintro e w1 ⟨rfl, rfl⟩
      rw [H2.out]
      go_wp2
      go_ret
      exact ⟨rfl, rfl⟩
  · rw [decide_eq_false hq, Bool.false_and]
    have hq' : ((xs.length : Int) == m) = false := by simpa using hq
    clear H1
    generalize xs.length = n at *
    go_enter Try.func23, Try.ntmps23
    go_wp2
    go_ret
    exact ⟨rfl, rfl⟩

end Go.Proofs.Ytdgkgnlilcbggaa

namespace Go.Proofs.Ytdgkgnlilcbggaa
open Go.RowKit
set_option linter.unusedVariables false

theorem sumN_abs {f : Nat → Int} {n : Nat} (h : ∀ k : Nat, k < n → -1000000 ≤ f k ∧ f k ≤ 1000000) : ∀ k : Nat, k ≤ n → -(1000000 * (k : Int)) ≤ sumN f k ∧ sumN f k ≤ 1000000 * k
  | 0, _ => by simp [sumN]
  | k + 1, hk => by
    have h1 := sumN_abs h k (by omega)
    have h2 := h k (by omega)
    rw [sumN_succ]
    omega

/-- The value of the block at place j of a list. -/
def valF (xs bs : List Int) (j : Nat) : Int := xs.getD (bs.getD j 0).toNat 0
def sumvB (xs bs : List Int) : Bool := valB xs.length xs && risB xs.length bs
def sumvV (xs bs : List Int) : Int := if sumvB xs bs then sumN (valF xs bs) bs.length else 0
theorem sumv_at {n : Int} {xs bs : List Int} (h1 : valB n xs = true) (h2 : risB n bs = true) {j : Nat} (hj : j < bs.length) : ∃ k : Nat, bs.getD j 0 = (k : Int) ∧ k < xs.length ∧ valF xs bs j = xs.getD k 0 := by
  obtain ⟨e, _, _, _⟩ := val_yes h1
  obtain ⟨a, b⟩ := ris_box h2 hj
  exact ⟨(bs.getD j 0).toNat, by omega, by omega, rfl⟩
theorem valF_box {n : Int} {xs bs : List Int} (h1 : valB n xs = true) (h2 : risB n bs = true) {j : Nat} (hj : j < bs.length) : -1000000 ≤ valF xs bs j ∧ valF xs bs j ≤ 1000000 := by
  obtain ⟨k, _, hk, e⟩ := sumv_at h1 h2 hj
  rw [e]
  exact wall_at (val_yes h1).2.2.2 hk
theorem vlen {n : Int} {xs bs : List Int} (h1 : valB n xs = true) (h2 : risB n bs = true) : bs.length ≤ 120 := by
  obtain ⟨_, a, b, _⟩ := val_yes h1
  have := ris_len h2 (by omega)
  omega

end Go.Proofs.Ytdgkgnlilcbggaa

namespace Go.Proofs.Ytdgkgnlilcbggaa
open Go.RowKit
set_option linter.unusedVariables false

end Go.Proofs.Ytdgkgnlilcbggaa
