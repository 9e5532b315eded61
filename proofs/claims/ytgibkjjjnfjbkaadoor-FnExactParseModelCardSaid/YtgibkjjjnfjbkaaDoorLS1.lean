/-
  Plain: strings split at a byte, numbers read, and decimal digits read back.
-/
import Derived.Lib.Fields
import Derived.Lib.AtoiAll
import Derived.Lib.ItoaNum
namespace Go.Proofs.YtgibkjjjnfjbkaaDoor
set_option linter.unusedVariables false

/-- Split at each byte b. -/
def spb (b : UInt8) (cur : List UInt8) : List UInt8 → List (List UInt8)
  | [] => [cur]
  | c :: r => if c = b then cur :: spb b [] r else spb b (cur ++ [c]) r
theorem spb_len (b : UInt8) (l : List UInt8) : ∀ cur, (spb b cur l).length ≤ l.length + 1 ∧ 1 ≤ (spb b cur l).length := by
  induction l with
  | nil => intro cur; simp [spb]
  | cons c r ih =>
    intro cur
    unfold spb
    split
    · have := ih []; simp; omega
    · have := ih (cur ++ [c]); simp; omega
theorem spb_piece (b : UInt8) (l : List UInt8) : ∀ cur p, p ∈ spb b cur l → p.length ≤ cur.length + l.length := by
  induction l with
  | nil => intro cur p hp; simp [spb] at hp; subst hp; simp
  | cons c r ih =>
    intro cur p hp
    unfold spb at hp
    split at hp
    · rcases List.mem_cons.1 hp with e | e
      · subst e; omega
      · have := ih [] p e; simp at this ⊢; omega
    · have := ih _ p hp; simp at this ⊢; omega
theorem spb_end {b : UInt8} (x : List UInt8) : ∀ cur, b ∉ x → spb b cur x = [cur ++ x] := by
  induction x with
  | nil => intro cur _; simp [spb]
  | cons c r ih =>
    intro cur h
    rw [List.mem_cons, not_or] at h
    unfold spb
    rw [if_neg (fun e => h.1 e.symm), ih _ h.2]
    simp
theorem spb_app {b : UInt8} (x y : List UInt8) : ∀ cur, b ∉ x → spb b cur (x ++ b :: y) = (cur ++ x) :: spb b [] y := by
  induction x with
  | nil => intro cur _; simp [spb]
  | cons c r ih =>
    intro cur h
    rw [List.mem_cons, not_or] at h
    rw [List.cons_append]
    conv => lhs; unfold spb
    rw [if_neg (fun e => h.1 e.symm), ih _ h.2]
    simp

def dig (c : UInt8) : Bool := decide (48 ≤ c.toNat ∧ c.toNat ≤ 57)
def nf (a : Int) : List UInt8 → Int
  | [] => a
  | c :: r => nf (10 * a + ((c.toNat : Int) - 48)) r
theorem nf_snoc (l : List UInt8) (c : UInt8) : ∀ a, nf a (l ++ [c]) = 10 * nf a l + ((c.toNat : Int) - 48) := by
  induction l with
  | nil => intro a; rfl
  | cons d r ih => intro a; exact ih _
theorem nf_ge (l : List UInt8) : ∀ a, 0 ≤ a → (∀ c ∈ l, dig c = true) → a ≤ nf a l ∧ 0 ≤ nf a l := by
  induction l with
  | nil => intro a h _; exact ⟨Int.le_refl _, h⟩
  | cons d r ih =>
    intro a h hd
    have h1 := of_decide_eq_true (hd d (by simp))
    have := ih (10 * a + ((d.toNat : Int) - 48)) (by omega) (fun c hc => hd c (by simp [hc]))
    unfold nf
    omega
theorem nf_lt (l : List UInt8) : ∀ (a : Int) (m : Int), 0 ≤ a → a < m → (∀ c ∈ l, dig c = true) → nf a l < m * 10 ^ l.length := by
  induction l with
  | nil => intro a m _ h _; simpa [nf] using h
  | cons d r ih =>
    intro a m h0 h hd
    have h1 := of_decide_eq_true (hd d (by simp))
    have := ih (10 * a + ((d.toNat : Int) - 48)) (m * 10) (by omega) (by omega) (fun c hc => hd c (by simp [hc]))
    unfold nf
    rw [List.length_cons, Int.pow_succ, Int.mul_comm (10 ^ r.length) 10, ← Int.mul_assoc]
    exact this
/-- A canonical decimal number below a million, or -1. -/
def rdB (l : List UInt8) : Bool := decide (1 ≤ l.length) && decide (l.length ≤ 6) && !(decide (l.getD 0 0 = 48) && decide (1 < l.length)) && l.all dig
def rdL (l : List UInt8) : Int := if rdB l then nf 0 l else -1
theorem nf_box {l : List UInt8} (h : ∀ c ∈ l, dig c = true) (hl : l.length ≤ 6) : 0 ≤ nf 0 l ∧ nf 0 l ≤ 1000000 := by
  have a := (nf_ge l 0 (Int.le_refl _) h).2
  have b := nf_lt l 0 1 (Int.le_refl _) (by omega) h
  have c : (10 : Int) ^ l.length ≤ 1000000 := by
    have : l.length = 0 ∨ l.length = 1 ∨ l.length = 2 ∨ l.length = 3 ∨ l.length = 4 ∨ l.length = 5 ∨ l.length = 6 := by omega
    rcases this with e | e | e | e | e | e | e <;> rw [e] <;> decide
  omega
theorem rd_bd (l : List UInt8) : -1 ≤ rdL l ∧ rdL l ≤ 1000000 := by
  unfold rdL
  by_cases hb : rdB l = true
  · rw [if_pos hb]
    unfold rdB at hb
    simp only [Bool.and_eq_true, decide_eq_true_eq, List.all_eq_true] at hb
    have := nf_box hb.2 hb.1.1.2
    omega
  · rw [if_neg hb]; omega

/-! ### Decimal digits -/
theorem dig_of {d : Nat} (h : d < 10) : dig (UInt8.ofNat (48 + d)) = true ∧ (UInt8.ofNat (48 + d)).toNat = 48 + d := by
  have e : (UInt8.ofNat (48 + d)).toNat = 48 + d := by simp; omega
  exact ⟨by unfold dig; rw [e]; exact decide_eq_true (by omega), e⟩
theorem dec_dig : ∀ (f u : Nat), u ≤ f → ∀ c ∈ Lib.decDigits u, dig c = true
  | f, u, h => fun c hc => by
    rw [Lib.decDigits] at hc
    split at hc
    · rename_i h10
      rw [List.mem_singleton] at hc
      subst hc
      exact (dig_of h10).1
    · rename_i h10
      rcases List.mem_append.1 hc with hc | hc
      · match f, h with
        | 0, h => omega
        | f + 1, h => exact dec_dig f (u / 10) (by omega) c hc
      · rw [List.mem_singleton] at hc
        subst hc
        exact (dig_of (Nat.mod_lt _ (by omega))).1
theorem dec_nf : ∀ (f u : Nat), u ≤ f → nf 0 (Lib.decDigits u) = (u : Int)
  | f, u, h => by
    rw [Lib.decDigits]
    split
    · rename_i h10
      show 10 * 0 + (((UInt8.ofNat (48 + u)).toNat : Int) - 48) = u
      rw [(dig_of h10).2]
      omega
    · rename_i h10
      match f, h with
      | 0, h => omega
      | f + 1, h =>
        rw [nf_snoc, dec_nf f (u / 10) (by omega), (dig_of (Nat.mod_lt u (show 0 < 10 by omega))).2]
        omega
theorem dec_len : ∀ (k u : Nat), u < 10 ^ k → 1 ≤ k → 1 ≤ (Lib.decDigits u).length ∧ (Lib.decDigits u).length ≤ k
  | 0, u, h, h1 => by omega
  | k + 1, u, h, _ => by
    rw [Lib.decDigits]
    split
    · simp
    · rename_i h10
      have hk : 1 ≤ k := by
        rcases Nat.eq_zero_or_pos k with e | e
        · subst e; simp at h; omega
        · exact e
      have := dec_len k (u / 10) (by rw [Nat.pow_succ] at h; omega) hk
      simp; omega
theorem dec_lead : ∀ (f u : Nat), u ≤ f → 1 ≤ u → (Lib.decDigits u).getD 0 0 ≠ 48
  | f, u, h, h1 => by
    rw [Lib.decDigits]
    split
    · rename_i h10
      intro e
      have e' : (UInt8.ofNat (48 + u)).toNat = 48 := by
        have : UInt8.ofNat (48 + u) = 48 := e
        rw [this]; rfl
      rw [(dig_of h10).2] at e'
      omega
    · rename_i h10
      match f, h with
      | 0, h => omega
      | f + 1, h =>
        have ih := dec_lead f (u / 10) (by omega) (by omega)
        have hl := (dec_len (u / 10 + 1) (u / 10) (Nat.lt_of_lt_of_le (Nat.lt_pow_self (show 1 < 10 by omega)) (Nat.pow_le_pow_right (by omega) (by omega))) (by omega)).1
        rw [List.getD_eq_getElem?_getD, List.getElem?_append_left (by omega), ← List.getD_eq_getElem?_getD]
        exact ih
theorem rd_dec {u : Nat} (h : u < 1000000) : rdL (Lib.decDigits u) = (u : Int) := by
  have hl := dec_len 6 u (by omega) (by omega)
  have hd := dec_dig u u (Nat.le_refl _)
  unfold rdL
  rw [if_pos, dec_nf u u (Nat.le_refl _)]
  unfold rdB
  rw [decide_eq_true hl.1, decide_eq_true hl.2, List.all_eq_true.2 hd]
  rcases Nat.eq_zero_or_pos u with e | e
  · subst e
    rw [Lib.decDigits]
    simp
  · rw [decide_eq_false (dec_lead u u (Nat.le_refl _) e)]
    rfl
theorem pu_dig : ∀ (l : List UInt8) (acc : Nat), (∀ c ∈ l, dig c = true) → (acc + 1) * 10 ^ l.length ≤ 1000000000000000 → ∃ v, Lib.parseUint10 acc l = .ok v ∧ (v : Int) = nf acc l ∧ v ≤ 1000000000000000
  | [], acc, _, h => ⟨acc, rfl, rfl, by simp at h; omega⟩
  | c :: r, acc, hd, h => by
    have h1 := of_decide_eq_true (hd c (by simp))
    have hp : 1 ≤ 10 ^ r.length := Nat.one_le_pow _ _ (by decide)
    rw [List.length_cons, Nat.pow_succ, Nat.mul_comm (10 ^ r.length) 10, ← Nat.mul_assoc] at h
    have hacc : (acc + 1) * 10 ≤ 1000000000000000 := Nat.le_trans (Nat.le_mul_of_pos_right _ hp) h
    have h2 : (acc * 10 + (c.toNat - 48) + 1) * 10 ^ r.length ≤ 1000000000000000 := Nat.le_trans (Nat.mul_le_mul_right _ (by omega)) h
    obtain ⟨v, e1, e2, e3⟩ := pu_dig r _ (fun x hx => hd x (by simp [hx])) h2
    refine ⟨v, ?_, ?_, e3⟩
    · unfold Lib.parseUint10
      rw [if_pos h1, if_neg (by omega), if_neg (by omega)]
      exact e1
    · rw [e2]
      show nf _ r = nf _ r
      congr 1
      omega
theorem atoi_dec {u : Nat} (h : u < 1000000) : Lib.atoiAll (Lib.decDigits u) = .ok (u : Int) := by
  have hl := dec_len 6 u (by omega) (by omega)
  have hd := dec_dig u u (Nat.le_refl _)
  have hn := dec_nf u u (Nat.le_refl _)
  generalize Lib.decDigits u = l at *
  match l, hl with
  | c :: r, hl =>
    have h1 := of_decide_eq_true (hd c (by simp))
    obtain ⟨v, e1, e2, e3⟩ := pu_dig (c :: r) 0 hd (by
      have : 10 ^ (c :: r).length ≤ 10 ^ 6 := Nat.pow_le_pow_right (by omega) hl.2
      omega)
    have e4 : (v : Int) = (u : Int) := e2.trans hn
    unfold Lib.atoiAll
    simp only
    rw [if_neg (by omega)]
    unfold Lib.parseMag
    rw [if_neg (by simp), e1]
    simp only
    rw [if_neg (by omega), if_neg (by omega), if_neg (by omega)]
    congr 1

/-! ### Words -/
theorem flds_go (x y : List UInt8) (b : UInt8) (hb : Lib.isSp b = true) : ∀ cur, (cur ++ x ≠ []) → (∀ c ∈ x, Lib.isSp c = false) → Lib.fieldsGo cur (x ++ b :: y) = (cur ++ x) :: Lib.fieldsGo [] y := by
  induction x with
  | nil => intro cur hc _; rw [List.append_nil] at hc; rw [List.nil_append, Lib.fieldsGo_end cur b y hb hc, List.append_nil]
  | cons c r ih =>
    intro cur hc hx
    rw [List.cons_append, Lib.fieldsGo_more cur c _ (hx c (by simp)), ih (cur ++ [c]) (by simp) (fun d hd => hx d (by simp [hd]))]
    simp
theorem dig_nosp {c : UInt8} (h : dig c = true) : Lib.isSp c = false ∧ c ≠ 32 ∧ c ≠ 10 ∧ c ≠ 120 ∧ c.toNat < 128 := by
  have := of_decide_eq_true h
  have key : ∀ k : UInt8, k.toNat < 48 ∨ 57 < k.toNat → c ≠ k := fun k hk e => by subst e; omega
  refine ⟨?_, key 32 (by decide), key 10 (by decide), key 120 (by decide), by omega⟩
  unfold Lib.isSp
  rw [beq_eq_false_iff_ne.2 (key 9 (by decide)), beq_eq_false_iff_ne.2 (key 10 (by decide)), beq_eq_false_iff_ne.2 (key 11 (by decide)), beq_eq_false_iff_ne.2 (key 12 (by decide)), beq_eq_false_iff_ne.2 (key 13 (by decide)), beq_eq_false_iff_ne.2 (key 32 (by decide))]
  rfl
end Go.Proofs.YtgibkjjjnfjbkaaDoor
