/-
  Closures counted: plain facts.
-/
import Derived.Test.YtffknfgejoejoaaNJ
namespace Go.Proofs.Ytffknfgejoejoaa
set_option linter.unusedVariables false

/-- How many numbers below m have p. -/
def cntP (p : Nat → Bool) : Nat → Nat
  | 0 => 0
  | m + 1 => cntP p m + if p m = true then 1 else 0
theorem cntP_yes {p : Nat → Bool} {m : Nat} (h : p m = true) : cntP p (m + 1) = cntP p m + 1 := by simp [cntP, h]
theorem cntP_no {p : Nat → Bool} {m : Nat} (h : p m = false) : cntP p (m + 1) = cntP p m := by simp [cntP, h]
theorem cntP_le (p : Nat → Bool) : ∀ m, cntP p m ≤ m
  | 0 => Nat.le_refl _
  | m + 1 => by
    have := cntP_le p m
    unfold cntP
    split <;> omega
theorem cntP_congr {p q : Nat → Bool} : ∀ {m : Nat}, (∀ s, s < m → p s = q s) → cntP p m = cntP q m
  | 0, _ => rfl
  | m + 1, h => by
    unfold cntP
    rw [cntP_congr (p := p) (q := q) fun s hs => h s (by omega), h m (by omega)]
theorem cntP_add (p : Nat → Bool) (a : Nat) : ∀ b, cntP p (a + b) = cntP p a + cntP (fun s => p (a + s)) b
  | 0 => rfl
  | b + 1 => by
    show cntP p (a + b) + (if p (a + b) = true then 1 else 0) = cntP p a + (cntP (fun s => p (a + s)) b + (if p (a + b) = true then 1 else 0))
    rw [cntP_add p a b]
    omega
theorem cntP_none {p : Nat → Bool} : ∀ {m : Nat}, (∀ s, s < m → p s = false) → cntP p m = 0
  | 0, _ => rfl
  | m + 1, h => by
    unfold cntP
    rw [cntP_none fun s hs => h s (by omega), h m (by omega)]
    rfl

/-- What is in a and not in b. -/
def lessB (a b : Nat) : Nat := a ^^^ (a &&& b)
theorem lessB_bit (a b k : Nat) : (lessB a b).testBit k = (a.testBit k && !b.testBit k) := by
  unfold lessB
  rw [Nat.testBit_xor, Nat.testBit_and]
  cases a.testBit k <;> cases b.testBit k <;> rfl
/-- Ways to take of what is left, by the greatest number. -/
def cw (C : Nat → Nat) : Nat → Nat → Nat
  | 0, _ => 1
  | j + 1, left => if left.testBit j = true then cw C j (lessB left (2 ^ j)) + cw C j (lessB left (C j)) else cw C j left
theorem cw_le (C : Nat → Nat) : ∀ j left, cw C j left ≤ 2 ^ j
  | 0, _ => Nat.le_refl _
  | j + 1, left => by
    unfold cw
    have h1 := cw_le C j (lessB left (2 ^ j))
    have h2 := cw_le C j (lessB left (C j))
    have h3 := cw_le C j left
    rw [Nat.pow_succ]
    split <;> omega
theorem cw_stable (C : Nat → Nat) {j left : Nat} (h : left < 2 ^ j) : ∀ {m : Nat}, j ≤ m → cw C m left = cw C j left
  | 0, hm => by obtain rfl : j = 0 := by omega
                rfl
  | m + 1, hm => by
    by_cases e : j = m + 1
    · rw [e]
    · have hb : left.testBit m = false := Nat.testBit_lt_two_pow (Nat.lt_of_lt_of_le h (Nat.pow_le_pow_right (by omega) (by omega)))
      rw [← cw_stable C h (m := m) (by omega)]
      show (if left.testBit m = true then _ else _) = _
      rw [hb, if_neg (by simp)]
theorem cw_zero (C : Nat → Nat) (m : Nat) : cw C m 0 = 1 := cw_stable C (j := 0) (by simp) (Nat.zero_le _)

/-- Whether a set of bits below N has the cone of each of its own. -/
def closC (C : Nat → Nat) (N s : Nat) : Prop := ∀ i, i < N → s.testBit i = true → ∀ k, (C i).testBit k = true → s.testBit k = true
theorem cw_counts {C : Nat → Nat} {N : Nat} (p : Nat → Bool) (hp : ∀ s, p s = true ↔ closC C N s)
    (h1 : ∀ i, i < N → (C i).testBit i = true) (h2 : ∀ i k, i < N → (C i).testBit k = true → k ≤ i)
    (h3 : ∀ i k m, i < N → (C i).testBit k = true → (C k).testBit m = true → (C i).testBit m = true) :
    ∀ (j A left : Nat), j ≤ N → (∀ k, A.testBit k = true → j ≤ k ∧ k < N) →
      (∀ i k, A.testBit i = true → (C i).testBit k = true → j ≤ k → A.testBit k = true) →
      (∀ k, left.testBit k = true ↔ k < j ∧ ∀ i, A.testBit i = true → (C i).testBit k = false) →
      cntP (fun B => p (A ||| B)) (2 ^ j) = cw C j left
  | 0, A, left, hj, hA, hc, hl => by
    have : p A = true := (hp A).2 fun i _ hi k hk => hc i k hi hk (Nat.zero_le _)
    show cntP _ 1 = 1
    simp [cntP, this]
  | j + 1, A, left, hj, hA, hc, hl => by
    have hpw : 2 ^ (j + 1) = 2 ^ j + 2 ^ j := by rw [Nat.pow_succ]; omega
    rw [hpw, cntP_add]
    have e2 : cntP (fun s => p (A ||| (2 ^ j + s))) (2 ^ j) = cntP (fun B => p ((A ||| 2 ^ j) ||| B)) (2 ^ j) := cntP_congr fun s hs => by
      have := Nat.two_pow_add_eq_or_of_lt hs 1
      rw [Nat.mul_one] at this
      rw [this, Nat.or_assoc]
    rw [e2]
    have jN : j < N := by omega
    have hjj : ∀ k, (2 ^ j).testBit k = true ↔ k = j := fun k => by rw [Nat.testBit_two_pow]; simp [eq_comm]
    have hor : ∀ k, (A ||| 2 ^ j).testBit k = true ↔ A.testBit k = true ∨ k = j := fun k => by rw [Nat.testBit_or, Bool.or_eq_true, hjj]
    have hA2 : ∀ k, (A ||| 2 ^ j).testBit k = true → j ≤ k ∧ k < N := fun k hk => by
      rcases (hor k).1 hk with h | rfl
      · have := hA k h; omega
      · omega
    have hc2 : ∀ i k, (A ||| 2 ^ j).testBit i = true → (C i).testBit k = true → j ≤ k → (A ||| 2 ^ j).testBit k = true := fun i k hi hk hjk => by
      rw [hor]
      by_cases e : k = j
      · exact .inr e
      · rcases (hor i).1 hi with h | rfl
        · exact .inl (hc i k h hk (by omega))
        · have := h2 _ k jN hk; omega
    cases hb : left.testBit j
    · have hcw : cw C (j + 1) left = cw C j left := by
        show (if left.testBit j = true then _ else _) = _
        rw [hb, if_neg (by simp)]
      obtain ⟨i, hi, hij⟩ : ∃ i, A.testBit i = true ∧ (C i).testBit j = true := by
        apply Classical.byContradiction
        intro hn
        have : left.testBit j = true := (hl j).2 ⟨by omega, fun i hi => by
          rw [Bool.eq_false_iff]
          exact fun h => hn ⟨i, hi, h⟩⟩
        rw [hb] at this
        cases this
      rw [hcw, cntP_none, Nat.zero_add]
      · refine cw_counts p hp h1 h2 h3 j (A ||| 2 ^ j) left (by omega) hA2 hc2 fun k => ?_
        rw [hl]
        constructor
        · rintro ⟨a, b⟩
          have hkj : k ≠ j := by
            rintro rfl
            have := b i hi
            rw [hij] at this
            cases this
          refine ⟨by omega, fun i' hi' => ?_⟩
          rcases (hor i').1 hi' with h | rfl
          · exact b i' h
          · rw [Bool.eq_false_iff]
            intro hk
            have := h3 i _ k (hA i hi).2 hij hk
            rw [b i hi] at this
            cases this
        · rintro ⟨a, b⟩
          exact ⟨by omega, fun i' hi' => b i' ((hor i').2 (.inl hi'))⟩
      · intro B hB
        rw [Bool.eq_false_iff]
        intro h
        have := (hp _).1 h i (hA i hi).2 (by rw [Nat.testBit_or, hi, Bool.true_or]) j hij
        rw [Nat.testBit_or, Nat.testBit_lt_two_pow hB, Bool.or_false] at this
        have := (hA j this).1
        omega
    · have hcw : cw C (j + 1) left = cw C j (lessB left (2 ^ j)) + cw C j (lessB left (C j)) := by
        show (if left.testBit j = true then _ else _) = _
        rw [hb, if_pos rfl]
      have hf := ((hl j).1 hb).2
      rw [hcw]
      congr 1
      · refine cw_counts p hp h1 h2 h3 j A (lessB left (2 ^ j)) (by omega) (fun k hk => by have := hA k hk; omega) (fun i k hi hk hjk => ?_) fun k => ?_
        · by_cases e : k = j
          · subst e
            rw [hf i hi] at hk
            cases hk
          · exact hc i k hi hk (by omega)
        · rw [lessB_bit, Bool.and_eq_true, Bool.not_eq_true', Bool.eq_false_iff, Ne, hjj, hl]
          constructor
          · rintro ⟨⟨a, b⟩, c⟩
            exact ⟨by omega, b⟩
          · rintro ⟨a, b⟩
            exact ⟨⟨by omega, b⟩, by omega⟩
      · refine cw_counts p hp h1 h2 h3 j (A ||| 2 ^ j) (lessB left (C j)) (by omega) hA2 hc2 fun k => ?_
        rw [lessB_bit, Bool.and_eq_true, Bool.not_eq_true', hl]
        constructor
        · rintro ⟨⟨a, b⟩, c⟩
          have hkj : k ≠ j := by
            rintro rfl
            rw [h1 _ jN] at c
            cases c
          refine ⟨by omega, fun i hi => ?_⟩
          rcases (hor i).1 hi with h | rfl
          · exact b i h
          · exact c
        · rintro ⟨a, b⟩
          exact ⟨⟨by omega, fun i hi => b i ((hor i).2 (.inl hi))⟩, b j ((hor j).2 (.inr rfl))⟩

/-! ### The program's steps -/
theorem cw_step {C : Nat → Nat} {N left : Nat} (h0 : left ≠ 0) (hN : left < 2 ^ N) (h1 : ∀ i, i < N → (C i).testBit i = true) :
    left.log2 < N ∧ cw C N left = cw C N (lessB left (2 ^ left.log2)) + cw C N (lessB left (C left.log2)) ∧ lessB left (2 ^ left.log2) < 2 ^ left.log2 ∧ lessB left (C left.log2) < 2 ^ left.log2 := by
  obtain ⟨l, hl⟩ : ∃ l, left.log2 = l := ⟨_, rfl⟩
  have hlN : l < N := by rw [← hl]; exact (Nat.log2_lt h0).2 hN
  have hs := Nat.log2_self_le h0
  have ht : left < 2 ^ (left.log2 + 1) := Nat.lt_log2_self
  rw [hl] at hs ht ⊢
  have hb : left.testBit l = true := by
    rw [Nat.testBit_eq_decide_div_mod_eq, decide_eq_true_eq]
    have : left / 2 ^ l = 1 := by
      have h3 : left / 2 ^ l < 2 := (Nat.div_lt_iff_lt_mul (Nat.two_pow_pos l)).2 (by rw [Nat.pow_succ] at ht; omega)
      have h4 : 1 ≤ left / 2 ^ l := (Nat.le_div_iff_mul_le (Nat.two_pow_pos l)).2 (by omega)
      omega
    rw [this]
  have hlow : ∀ b : Nat, b.testBit l = true → lessB left b < 2 ^ l := fun b hbl => by
    refine Nat.lt_pow_two_of_testBit _ fun i hi => ?_
    rw [lessB_bit]
    by_cases e : i = l
    · rw [e, hbl]; simp
    · have : left.testBit i = false := Nat.testBit_lt_two_pow (Nat.lt_of_lt_of_le ht (Nat.pow_le_pow_right (by omega) (by omega)))
      rw [this]; rfl
  have q1 := hlow (2 ^ l) (by simp)
  have q2 := hlow (C l) (h1 l hlN)
  refine ⟨hlN, ?_, q1, q2⟩
  rw [cw_stable C ht (m := N) (by omega), cw_stable C q1 (m := N) (by omega), cw_stable C q2 (m := N) (by omega)]
  show (if left.testBit l = true then _ else _) = _
  rw [hb, if_pos rfl]
theorem cw_twice {C : Nat → Nat} {left l : Nat} (h : C l &&& left = 2 ^ l) : lessB left (C l) = lessB left (2 ^ l) := by
  unfold lessB
  have e : left &&& 2 ^ l = 2 ^ l := by
    rw [← h]
    refine Nat.eq_of_testBit_eq fun i => ?_
    simp only [Nat.testBit_and]
    cases left.testBit i <;> cases (C l).testBit i <;> rfl
  rw [e, Nat.and_comm, h]
end Go.Proofs.Ytffknfgejoejoaa
