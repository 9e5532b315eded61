/-
  Names of blocks: split at commas and read, or scanned: no Go in sight.
-/
namespace Go.Proofs.Ytpbkobkakedegaa

/-- Split at each comma. -/
def sp (cur : List UInt8) : List UInt8 → List (List UInt8)
  | [] => [cur]
  | c :: r => if c = 44 then cur :: sp [] r else sp (cur ++ [c]) r
def jn : List (List UInt8) → List UInt8
  | [] => []
  | [p] => p
  | p :: q :: r => p ++ 44 :: jn (q :: r)
theorem sp_ne (l : List UInt8) : ∀ cur, ∃ p r, sp cur l = p :: r := by
  induction l with
  | nil => exact fun cur => ⟨cur, [], rfl⟩
  | cons c r ih =>
    intro cur
    unfold sp
    split
    · exact ⟨_, _, rfl⟩
    · exact ih _
theorem jn_sp (l : List UInt8) : ∀ cur, jn (sp cur l) = cur ++ l := by
  induction l with
  | nil => intro cur; simp [sp, jn]
  | cons c r ih =>
    intro cur
    unfold sp
    split
    · rename_i h
      obtain ⟨p, q, e⟩ := sp_ne r []
      rw [e, jn, ← e, ih, h]
      simp
    · rw [ih]; simp
theorem sp_len (l : List UInt8) : ∀ cur, (sp cur l).length ≤ l.length + 1 := by
  induction l with
  | nil => intro cur; simp [sp]
  | cons c r ih =>
    intro cur
    unfold sp
    split
    · have := ih []; simp; omega
    · have := ih (cur ++ [c]); simp; omega

def dig (c : UInt8) : Bool := decide (48 ≤ c.toNat ∧ c.toNat ≤ 57)
def nf (a : Int) : List UInt8 → Int
  | [] => a
  | c :: r => nf (10 * a + ((c.toNat : Int) - 48)) r
theorem nf_snoc (l : List UInt8) (c : UInt8) : ∀ a, nf a (l ++ [c]) = 10 * nf a l + ((c.toNat : Int) - 48) := by
  induction l with
  | nil => intro a; rfl
  | cons d r ih => intro a; exact ih _
theorem nf_ge (l : List UInt8) : ∀ a, 0 ≤ a → (∀ c ∈ l, dig c = true) → a ≤ nf a l ∧ 0 ≤ nf a l := by
  induction l with
  | nil => intro a h _; exact ⟨Int.le_refl _, h⟩
  | cons d r ih =>
    intro a h hd
    have h1 := of_decide_eq_true (hd d (by simp))
    have := ih (10 * a + ((d.toNat : Int) - 48)) (by omega) (fun c hc => hd c (by simp [hc]))
    unfold nf
    omega
theorem nf_lt (l : List UInt8) : ∀ (a : Int) (m : Int), 0 ≤ a → a < m → (∀ c ∈ l, dig c = true) → nf a l < m * 10 ^ l.length := by
  induction l with
  | nil => intro a m _ h _; simpa [nf] using h
  | cons d r ih =>
    intro a m h0 h hd
    have h1 := of_decide_eq_true (hd d (by simp))
    have := ih (10 * a + ((d.toNat : Int) - 48)) (m * 10) (by omega) (by omega) (fun c hc => hd c (by simp [hc]))
    unfold nf
    rw [List.length_cons, Int.pow_succ, Int.mul_comm (10 ^ r.length) 10, ← Int.mul_assoc]
    exact this
/-- A canonical decimal number below a million, or -1. -/
def rdB (l : List UInt8) : Bool := decide (1 ≤ l.length) && decide (l.length ≤ 6) && !(decide (l.getD 0 0 = 48) && decide (1 < l.length)) && l.all dig
def rdL (l : List UInt8) : Int := if rdB l then nf 0 l else -1
theorem rd_small {l : List UInt8} (h0 : 0 ≤ rdL l) (h9 : rdL l < 10) : ∃ c, l = [c] ∧ dig c = true ∧ rdL l = (c.toNat : Int) - 48 := by
  unfold rdL at *
  by_cases hb : rdB l = true
  · rw [if_pos hb] at *
    unfold rdB at hb
    simp only [Bool.and_eq_true, Bool.not_eq_true', Bool.and_eq_false_iff, decide_eq_true_eq, decide_eq_false_iff_not, List.all_eq_true] at hb
    obtain ⟨⟨⟨h1, h2⟩, h3⟩, h4⟩ := hb
    match l, h1 with
    | [c], _ => exact ⟨c, rfl, h4 c (by simp), by simp [nf]⟩
    | c :: d :: r, _ =>
      exfalso
      have hc := of_decide_eq_true (h4 c (by simp))
      have hd := of_decide_eq_true (h4 d (by simp))
      have hne : c.toNat ≠ 48 := by
        intro e
        rcases h3 with h3 | h3
        · apply h3
          simp only [List.getD_cons_zero]
          exact UInt8.toNat_inj.1 (by rw [e]; rfl)
        · simp at h3
      have := (nf_ge r (10 * (10 * 0 + ((c.toNat : Int) - 48)) + ((d.toNat : Int) - 48)) (by omega) (fun x hx => h4 x (by simp [hx]))).1
      simp only [nf] at h9
      omega
  · rw [if_neg hb] at h0
    omega
theorem rd_one {c : UInt8} (h : dig c = true) : rdL [c] = (c.toNat : Int) - 48 := by
  unfold rdL
  rw [if_pos (by simp [rdB, h])]
  simp [nf]
theorem rd_bd (l : List UInt8) : -1 ≤ rdL l ∧ rdL l ≤ 1000000 := by
  unfold rdL
  by_cases hb : rdB l = true
  · rw [if_pos hb]
    unfold rdB at hb
    simp only [Bool.and_eq_true, decide_eq_true_eq, List.all_eq_true] at hb
    obtain ⟨⟨⟨h1, h2⟩, _⟩, h4⟩ := hb
    have a := (nf_ge l 0 (Int.le_refl _) h4).2
    have b := nf_lt l 0 1 (Int.le_refl _) (by omega) h4
    have c : (10 : Int) ^ l.length ≤ 10 ^ 6 := by
      have : l.length = 1 ∨ l.length = 2 ∨ l.length = 3 ∨ l.length = 4 ∨ l.length = 5 ∨ l.length = 6 := by omega
      rcases this with e | e | e | e | e | e <;> rw [e] <;> decide
    constructor
    · omega
    · have : (10 : Int) ^ 6 = 1000000 := by decide
      omega
  · rw [if_neg hb]; omega

/-- Three digits with commas between them. -/
def nameL (l : List UInt8) : Bool := match l with
  | [a, b, c, d, e] => dig a && decide (b = 44) && dig c && decide (d = 44) && dig e
  | _ => false
theorem dig_ne {c : UInt8} (h : dig c = true) : c ≠ 44 := by
  rintro rfl
  exact absurd h (by decide)
theorem name_form {l : List UInt8} (h : nameL l = true) : ∃ a c e, l = [a, 44, c, 44, e] ∧ dig a = true ∧ dig c = true ∧ dig e = true := by
  unfold nameL at h
  split at h
  · simp only [Bool.and_eq_true, decide_eq_true_eq] at h
    obtain ⟨⟨⟨⟨h1, rfl⟩, h2⟩, rfl⟩, h3⟩ := h
    exact ⟨_, _, _, rfl, h1, h2, h3⟩
  · cases h
theorem sp_name {a c e : UInt8} (ha : dig a = true) (hc : dig c = true) (he : dig e = true) : sp [] [a, 44, c, 44, e] = [[a], [c], [e]] := by
  simp [sp, dig_ne ha, dig_ne hc, dig_ne he]
/-- Three parts that are read as numbers below ten: then it is such a name. -/
theorem name_of_sp {l p q r : List UInt8} (h : sp [] l = [p, q, r]) (hp : 0 ≤ rdL p ∧ rdL p < 10) (hq : 0 ≤ rdL q ∧ rdL q < 10) (hr : 0 ≤ rdL r ∧ rdL r < 10) : nameL l = true := by
  obtain ⟨a, rfl, ha, _⟩ := rd_small hp.1 hp.2
  obtain ⟨c, rfl, hc, _⟩ := rd_small hq.1 hq.2
  obtain ⟨e, rfl, he, _⟩ := rd_small hr.1 hr.2
  have := jn_sp l []
  rw [h] at this
  simp [jn] at this
  rw [← this]
  simp [nameL, ha, hc, he]
end Go.Proofs.Ytpbkobkakedegaa
