/-
  Shares: plain facts on sums, remainders, the order by remainders, and the greatest remainder that is left.
-/
import Derived.Test.YthlclieifcbkjabU7
import Derived.Test.YthlclieifcbkjabT2
namespace Go.Proofs.Ythlclieifcbkjab
set_option linter.unusedVariables false

def sumTo (ws : List Int) : Nat → Int
  | 0 => 0
  | k + 1 => sumTo ws k + ws.getD k 0
def rmA (N W : Int) (ws : List Int) (i : Int) : Int := N * ws.getD i.toNat 0 % W
def qoA (N W : Int) (ws : List Int) (k : Nat) : Int := N * ws.getD k 0 / W
/-- What is left behind the first k shares. -/
def lefS (N W : Int) (ws : List Int) : Nat → Int
  | 0 => N
  | k + 1 => lefS N W ws k - qoA N W ws k
def basS (N W : Int) (ws : List Int) (k : Nat) : List Int := (List.range k).map (qoA N W ws)
theorem basS_succ (N W : Int) (ws : List Int) (k : Nat) : basS N W ws (k + 1) = basS N W ws k ++ [qoA N W ws k] := by unfold basS; rw [List.range_succ, List.map_append]; rfl
theorem basS_len (N W : Int) (ws : List Int) (k : Nat) : (basS N W ws k).length = k := by simp [basS]
def srR (N W : Int) (ws : List Int) : Nat → Int
  | 0 => 0
  | k + 1 => srR N W ws k + rmA N W ws k
theorem sum_split (N W : Int) (ws : List Int) : ∀ k, N * sumTo ws k = W * (N - lefS N W ws k) + srR N W ws k
  | 0 => by simp [sumTo, lefS, srR]
  | k + 1 => by
    have ih := sum_split N W ws k
    have e := Int.mul_ediv_add_emod (N * ws.getD k 0) W
    simp only [sumTo, lefS, srR, qoA, rmA, Int.toNat_natCast] at *
    rw [Int.mul_add, ih, show N - (lefS N W ws k - N * ws.getD k 0 / W) = (N - lefS N W ws k) + N * ws.getD k 0 / W by omega, Int.mul_add]
    omega
theorem srR_box {N W : Int} {ws : List Int} (hW : 0 < W) : ∀ k, 0 ≤ srR N W ws k ∧ srR N W ws k ≤ W * (k : Int)
  | 0 => by simp [srR]
  | k + 1 => by
    have ih := srR_box (N := N) (ws := ws) hW k
    have a := Int.emod_nonneg (N * ws.getD ((k : Int).toNat) 0) (show W ≠ 0 by omega)
    have b := Int.emod_lt_of_pos (N * ws.getD ((k : Int).toNat) 0) hW
    have e : W * ((k + 1 : Nat) : Int) = W * (k : Int) + W := by rw [Int.natCast_add, Int.mul_add]; simp
    rw [srR, e]
    unfold rmA
    omega
/-- Fewer are left than there are weights. -/
theorem left_box {N W : Int} {ws : List Int} {n : Nat} (hW : 0 < W) (hs : sumTo ws n = W) : 0 ≤ lefS N W ws n ∧ lefS N W ws n ≤ (n : Int) := by
  have h := sum_split N W ws n
  obtain ⟨a, b⟩ := srR_box (N := N) (ws := ws) hW n
  rw [hs] at h
  have e : W * lefS N W ws n = srR N W ws n := by
    rw [Int.mul_sub] at h
    have : N * W = W * N := Int.mul_comm _ _
    omega
  constructor
  · rcases Int.lt_or_le (lefS N W ws n) 0 with hl | hl
    · have := Int.mul_neg_of_pos_of_neg hW hl
      omega
    · exact hl
  · exact Int.le_of_mul_le_mul_left (by rw [e]; exact b) hW

/-! ### The order by a key, the greatest first -/
def RK (key : Int → Int) (a b : Int) : Prop := key b < key a ∨ (key a = key b ∧ a < b)
def ltK (key : Int → Int) (a b : Int) : Bool := decide (key b < key a)
theorem posR_stop (lt : Int → Int → Bool) (x : Int) (out : List Int) : ∀ k, posR lt x out k = 0 ∨ lt x (out.getD (posR lt x out k - 1) 0) = false
  | 0 => .inl rfl
  | k + 1 => by
    rw [posR]
    split
    · exact posR_stop lt x out k
    · rename_i h
      right
      simpa using h
theorem posR_after (lt : Int → Int → Bool) (x : Int) (out : List Int) : ∀ k {q : Nat}, posR lt x out k ≤ q → q < k → lt x (out.getD q 0) = true
  | k + 1, q, h, hq => by
    rw [posR] at h
    split at h
    · rename_i hc
      by_cases e : q = k
      · rw [e]; exact hc
      · exact posR_after lt x out k h (by omega)
    · omega
theorem sortN_pair (key : Int → Int) : ∀ i, (sortN (ltK key) i).Pairwise (RK key)
  | 0 => List.Pairwise.nil
  | i + 1 => by
    have ih := sortN_pair key i
    have hl := sortN_len (ltK key) i
    have hp := posR_le (ltK key) i (sortN (ltK key) i) i
    have hst := posR_stop (ltK key) i (sortN (ltK key) i) i
    have haf := fun (q : Nat) => posR_after (ltK key) i (sortN (ltK key) i) i (q := q)
    rw [sortN, insAt]
    generalize posR (ltK key) i (sortN (ltK key) i) i = p at *
    rw [List.pairwise_append, List.pairwise_cons]
    have hdrop : ∀ b ∈ (sortN (ltK key) i).drop p, RK key i b := fun b hb => by
      obtain ⟨k, hk, e⟩ := List.getElem_of_mem hb
      rw [List.length_drop] at hk
      rw [List.getElem_drop] at e
      have := haf (p + k) (by omega) (by omega)
      rw [List.getD_eq_getElem?_getD, List.getElem?_eq_getElem (by omega)] at this
      simp [ltK] at this
      left
      rw [← e]; exact this
    have htake : ∀ a ∈ (sortN (ltK key) i).take p, RK key a i := fun a ha => by
      obtain ⟨k, hk, e⟩ := List.getElem_of_mem ha
      rw [List.length_take] at hk
      rw [List.getElem_take] at e
      obtain ⟨b, eb, hb⟩ := sortN_mem (ltK key) i (List.mem_of_mem_take ha)
      rcases hst with h0 | h0
      · omega
      · rw [List.getD_eq_getElem?_getD, List.getElem?_eq_getElem (by omega)] at h0
        simp [ltK] at h0
        have hge : key ((sortN (ltK key) i)[p - 1]'(by omega)) ≤ key a := by
          by_cases hk1 : k = p - 1
          · subst hk1; rw [← e]; exact Int.le_refl _
          · have := (List.pairwise_iff_getElem.1 ih) k (p - 1) (by omega) (by omega) (by omega)
            rw [e] at this
            rcases this with h | h <;> omega
        by_cases hlt : key i < key a
        · exact .inl hlt
        · exact .inr ⟨by omega, by rw [eb]; omega⟩
    refine ⟨ih.sublist (List.take_sublist _ _), ⟨hdrop, ih.sublist (List.drop_sublist _ _)⟩, fun a ha b hb => ?_⟩
    rw [List.mem_cons] at hb
    rcases hb with rfl | hb
    · exact htake a ha
    · have := ih
      rw [← List.take_append_drop p (sortN (ltK key) i), List.pairwise_append] at this
      exact this.2.2 a ha b hb

/-! ### The greatest key that is left -/
/-- The best of the first k numbers that are not met. -/
def bstF (key : Int → Int) (met : List Int) : Nat → Int
  | 0 => -1
  | k + 1 => if (k : Int) ∈ met then bstF key met k else if bstF key met k < 0 ∨ key (bstF key met k) < key k then (k : Int) else bstF key met k
theorem bstF_is (key : Int → Int) (met : List Int) : ∀ k, (bstF key met k = -1 ∧ ∀ i : Nat, i < k → (i : Int) ∈ met) ∨
    (∃ b : Nat, bstF key met k = (b : Int) ∧ b < k ∧ (b : Int) ∉ met ∧ ∀ i : Nat, i < k → (i : Int) ∉ met → i = b ∨ RK key b i)
  | 0 => .inl ⟨rfl, fun i hi => by omega⟩
  | k + 1 => by
    by_cases hm : (k : Int) ∈ met
    · rw [bstF, if_pos hm]
      rcases bstF_is key met k with ⟨e, h⟩ | ⟨b, e, hb, hnb, h⟩
      · refine .inl ⟨e, fun i hi => ?_⟩
        by_cases ei : i = k
        · rw [ei]; exact hm
        · exact h i (by omega)
      · refine .inr ⟨b, e, by omega, hnb, fun i hi hni => ?_⟩
        by_cases ei : i = k
        · rw [ei] at hni; exact absurd hm hni
        · exact h i (by omega) hni
    · rw [bstF, if_neg hm]
      rcases bstF_is key met k with ⟨e, h⟩ | ⟨b, e, hb, hnb, h⟩
      · rw [if_pos (.inl (by omega))]
        refine .inr ⟨k, rfl, by omega, hm, fun i hi hni => ?_⟩
        by_cases ei : i = k
        · exact .inl ei
        · exact absurd (h i (by omega)) hni
      · rw [e]
        by_cases hk : key b < key k
        · rw [if_pos (.inr hk)]
          refine .inr ⟨k, rfl, by omega, hm, fun i hi hni => ?_⟩
          by_cases ei : i = k
          · exact .inl ei
          · right; left
            rcases h i (by omega) hni with rfl | h' | h'
            · exact hk
            · omega
            · omega
        · rw [if_neg (by omega)]
          refine .inr ⟨b, rfl, by omega, hnb, fun i hi hni => ?_⟩
          by_cases ei : i = k
          · right
            rw [ei]
            by_cases e2 : key b = key k
            · exact .inr ⟨e2, by omega⟩
            · exact .inl (by omega)
          · exact h i (by omega) hni
/-- The next of the order is the best that is not met. -/
theorem bst_next (key : Int → Int) (n t : Nat) (ht : t < n) : bstF key ((sortN (ltK key) n).take t) n = (sortN (ltK key) n).getD t 0 := by
  have hl := sortN_len (ltK key) n
  have hp := sortN_pair key n
  have hnd := sortN_nodup (ltK key) n
  obtain ⟨x, ex, hx⟩ := sortN_at (ltK key) n ht
  have exg : (sortN (ltK key) n)[t]'(by omega) = (x : Int) := by
    rw [List.getD_eq_getElem?_getD, List.getElem?_eq_getElem (by omega)] at ex
    simpa using ex
  have hnx : (x : Int) ∉ (sortN (ltK key) n).take t := fun hm => by
    obtain ⟨k, hk, e⟩ := List.getElem_of_mem hm
    rw [List.length_take] at hk
    rw [List.getElem_take, ← exg] at e
    have := (List.pairwise_iff_getElem.1 hnd) k t (by omega) (by omega) (by omega)
    exact this e
  rcases bstF_is key ((sortN (ltK key) n).take t) n with ⟨_, h⟩ | ⟨b, e, hb, hnb, h⟩
  · exact absurd (h x hx) hnx
  · rw [e, ex]
    rcases h x hx hnx with rfl | hr
    · rfl
    · exfalso
      -- b stands in the order at a place that is not before t
      have hbm : (b : Int) ∈ sortN (ltK key) n := by
        have hsub : ∀ (i : Nat), ∀ c : Nat, c < i → (c : Int) ∈ sortN (ltK key) i := fun i => by
          induction i with
          | zero => intro c hc; omega
          | succ i ih =>
            intro c hc
            rw [sortN, (insAt_perm _ _ _).mem_iff, List.mem_cons]
            by_cases ec : c = i
            · left; rw [ec]
            · exact .inr (ih c (by omega))
        exact hsub n b hb
      obtain ⟨s, hs, es⟩ := List.getElem_of_mem hbm
      have hts : t ≤ s := by
        rcases Nat.lt_or_ge s t with hlt | hge
        · exfalso
          apply hnb
          rw [← es]
          exact List.mem_take_iff_getElem.2 ⟨s, by omega, rfl⟩
        · exact hge
      by_cases ets : s = t
      · subst ets
        have : (b : Int) = (x : Int) := by rw [← es, exg]
        rw [this] at hr
        rcases hr with h1 | h1 <;> omega
      · have := (List.pairwise_iff_getElem.1 hp) t s (by omega) (by omega) (by omega)
        rw [exg, es] at this
        rcases hr with h1 | h1 <;> rcases this with h2 | h2 <;> omega
end Go.Proofs.Ythlclieifcbkjab
