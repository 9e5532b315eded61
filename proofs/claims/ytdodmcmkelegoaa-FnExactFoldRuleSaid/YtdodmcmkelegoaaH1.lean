/-
  Folded rules: plain facts.
-/
import Derived.Test.YtdodmcmkelegoaaF1
namespace Go.Proofs.Ytdodmcmkelegoaa
set_option linter.unusedVariables false

/-- None of the n parts from lo on is a field. -/
def noFd (ks : Nat → Int) (lo n : Nat) : Bool := (List.range n).all fun j => decide (ks (lo + j) ≠ 1)
theorem noFd_yes {ks : Nat → Int} {lo n : Nat} (h : ∀ j, j < n → ks (lo + j) ≠ 1) : noFd ks lo n = true := by
  unfold noFd
  rw [List.all_eq_true]
  exact fun j hj => decide_eq_true (h j (List.mem_range.1 hj))
theorem noFd_to {ks : Nat → Int} {lo n : Nat} (h : noFd ks lo n = true) : ∀ j, j < n → ks (lo + j) ≠ 1 := fun j hj => by
  unfold noFd at h
  rw [List.all_eq_true] at h
  exact of_decide_eq_true (h j (List.mem_range.2 hj))
theorem noFd_no {ks : Nat → Int} {lo n j : Nat} (hj : j < n) (h : ks (lo + j) = 1) : noFd ks lo n = false := by
  cases e : noFd ks lo n
  · rfl
  · exact absurd h (noFd_to e j hj)
def chkN (n : Int) : Option Int := if 0 ≤ n ∧ n ≤ 1000000 then some n else none
theorem chkN_yes {n : Int} (h : 0 ≤ n ∧ n ≤ 1000000) : chkN n = some n := if_pos h
theorem chkN_no {n : Int} (h : ¬ (0 ≤ n ∧ n ≤ 1000000)) : chkN n = none := if_neg h
/-- The number that a part without fields can be replaced by. -/
def cst (ks vs : Nat → Int) (t : Tr) (e : Nat) : Option Int := if noFd ks (e + 1 - t.size) t.size then (ev ks vs [] t e).bind chkN else none
/-- The folded part, as numbers; how many parts it is. -/
def foldL (ks vs : Nat → Int) : Tr → Nat → List Int
  | .leaf, e => match cst ks vs .leaf e with
    | some n => [0, n]
    | none => [ks e, vs e]
  | .two a b, e => match cst ks vs (.two a b) e with
    | some n => [0, n]
    | none => foldL ks vs a (e - 1 - b.size) ++ foldL ks vs b (e - 1) ++ [ks e, vs e]
  | .four a b c d, e => match cst ks vs (.four a b c d) e with
    | some n => [0, n]
    | none => foldL ks vs a (e - 1 - d.size - c.size - b.size) ++ foldL ks vs b (e - 1 - d.size - c.size) ++ foldL ks vs c (e - 1 - d.size) ++ foldL ks vs d (e - 1) ++ [ks e, vs e]
def foldN (ks vs : Nat → Int) : Tr → Nat → Nat
  | .leaf, e => 1
  | .two a b, e => match cst ks vs (.two a b) e with
    | some n => 1
    | none => foldN ks vs a (e - 1 - b.size) + foldN ks vs b (e - 1) + 1
  | .four a b c d, e => match cst ks vs (.four a b c d) e with
    | some n => 1
    | none => foldN ks vs a (e - 1 - d.size - c.size - b.size) + foldN ks vs b (e - 1 - d.size - c.size) + foldN ks vs c (e - 1 - d.size) + foldN ks vs d (e - 1) + 1
theorem foldN_le (ks vs : Nat → Int) : ∀ (t : Tr) (e : Nat), foldN ks vs t e ≤ t.size
  | .leaf, e => by simp [foldN, Tr.size]
  | .two a b, e => by
    have h1 := foldN_le ks vs a (e - 1 - b.size)
    have h2 := foldN_le ks vs b (e - 1)
    unfold foldN
    simp only [Tr.size]
    split <;> omega
  | .four a b c d, e => by
    have h1 := foldN_le ks vs a (e - 1 - d.size - c.size - b.size)
    have h2 := foldN_le ks vs b (e - 1 - d.size - c.size)
    have h3 := foldN_le ks vs c (e - 1 - d.size)
    have h4 := foldN_le ks vs d (e - 1)
    unfold foldN
    simp only [Tr.size]
    split <;> omega
/-- The first j lists one behind the other; their sizes together. -/
def catL (f : Nat → List Int) : Nat → List Int
  | 0 => []
  | j + 1 => catL f j ++ f j
def catN (f : Nat → Nat) : Nat → Nat
  | 0 => 0
  | j + 1 => catN f j + f j
theorem catN_le (f : Nat → Nat) (kd : Nat → Tr) (h : ∀ j, f j ≤ (kd j).size) : ∀ m, catN f m ≤ smz kd m
  | 0 => Nat.le_refl _
  | m + 1 => by have := catN_le f kd h m; have := h m; rw [catN, smz]; omega
theorem fold_some {ks vs : Nat → Int} {n : Int} : ∀ {t : Tr} {e : Nat}, cst ks vs t e = some n → foldL ks vs t e = [0, n] ∧ foldN ks vs t e = 1
  | .leaf, e, h => ⟨by unfold foldL; rw [h], rfl⟩
  | .two a b, e, h => ⟨by unfold foldL; rw [h], by unfold foldN; rw [h]⟩
  | .four a b c d, e, h => ⟨by unfold foldL; rw [h], by unfold foldN; rw [h]⟩
def kidL (ks vs : Nat → Int) (lo : Nat) (kd : Nat → Tr) (of : Nat → Nat) (j : Nat) : List Int := foldL ks vs (kd j) (lo + of (j + 1) - 1)
def kidN (ks vs : Nat → Int) (lo : Nat) (kd : Nat → Tr) (of : Nat → Nat) (j : Nat) : Nat := foldN ks vs (kd j) (lo + of (j + 1) - 1)
theorem fold_split {ks vs : Nat → Int} {e lo : Nat} : ∀ {t : Tr}, At ks t e → lo + t.size = e + 1 → ∃ m kd of, Split ks lo t.size m kd of ∧ m ≤ 4 ∧ (∀ j, j < m → (kd j).size < t.size) ∧ t.size = smz kd m + 1 ∧ kid ks e = (List.range m).map (fun j => lo + of (j + 1) - 1) ∧
    (cst ks vs t e = none → foldL ks vs t e = catL (kidL ks vs lo kd of) m ++ [ks e, vs e] ∧ foldN ks vs t e = catN (kidN ks vs lo kd of) m + 1)
  | .leaf, h, hl => by
    refine ⟨0, fun _ => .leaf, fun _ => 0, ⟨?_, rfl, rfl, fun j hj => by omega, fun j hj => by omega⟩, by omega, fun j hj => by omega, rfl, by rw [h.2]; rfl, fun hc => ⟨by unfold foldL; rw [hc]; rfl, rfl⟩⟩
    rw [show lo + Tr.leaf.size - 1 = e by omega]; exact h.1
  | .two a b, ⟨hd, hz, hk, ha, hb⟩, hl => by
    simp only [Tr.size] at hl
    have za := a.size_pos
    have zb := b.size_pos
    refine ⟨2, fun j => if j = 0 then a else b, fun j => if j = 0 then 0 else if j = 1 then a.size else a.size + b.size, ⟨?_, rfl, ?_, ?_, ?_⟩, by omega, ?_, ?_, ?_, ?_⟩
    · rw [show lo + (Tr.two a b).size - 1 = e by simp only [Tr.size]; omega]; exact hd
    · simp only [Tr.size]; simp; omega
    · intro j hj
      rcases (show j = 0 ∨ j = 1 by omega) with rfl | rfl <;> simp
    · intro j hj
      rcases (show j = 0 ∨ j = 1 by omega) with rfl | rfl
      · simp; rw [show lo + a.size - 1 = e - 1 - b.size by omega]; exact ha
      · simp; rw [show lo + (a.size + b.size) - 1 = e - 1 by omega]; exact hb
    · intro j hj
      simp only [Tr.size]
      rcases (show j = 0 ∨ j = 1 by omega) with rfl | rfl <;> simp <;> omega
    · simp only [Tr.size, smz]; simp; omega
    · rw [hk]
      simp [List.range_succ]
      omega
    · intro hc
      unfold foldL foldN
      rw [hc]
      simp only [catL, catN, kidL, kidN, List.nil_append, Nat.zero_add]
      simp
      rw [show lo + a.size - 1 = e - 1 - b.size by omega, show lo + (a.size + b.size) - 1 = e - 1 by omega]
      exact ⟨rfl, rfl⟩
  | .four a b c d, ⟨hd, hz, hk, ha, hb, hc, hdd⟩, hl => by
    simp only [Tr.size] at hl
    have za := a.size_pos
    have zb := b.size_pos
    have zc := c.size_pos
    have zd := d.size_pos
    refine ⟨4, fun j => if j = 0 then a else if j = 1 then b else if j = 2 then c else d, fun j => if j = 0 then 0 else if j = 1 then a.size else if j = 2 then a.size + b.size else if j = 3 then a.size + b.size + c.size else a.size + b.size + c.size + d.size, ⟨?_, rfl, ?_, ?_, ?_⟩, by omega, ?_, ?_, ?_, ?_⟩
    · rw [show lo + (Tr.four a b c d).size - 1 = e by simp only [Tr.size]; omega]; exact hd
    · simp only [Tr.size]; simp; omega
    · intro j hj
      rcases (show j = 0 ∨ j = 1 ∨ j = 2 ∨ j = 3 by omega) with rfl | rfl | rfl | rfl <;> simp
    · intro j hj
      rcases (show j = 0 ∨ j = 1 ∨ j = 2 ∨ j = 3 by omega) with rfl | rfl | rfl | rfl
      · simp; rw [show lo + a.size - 1 = e - 1 - d.size - c.size - b.size by omega]; exact ha
      · simp; rw [show lo + (a.size + b.size) - 1 = e - 1 - d.size - c.size by omega]; exact hb
      · simp; rw [show lo + (a.size + b.size + c.size) - 1 = e - 1 - d.size by omega]; exact hc
      · simp; rw [show lo + (a.size + b.size + c.size + d.size) - 1 = e - 1 by omega]; exact hdd
    · intro j hj
      simp only [Tr.size]
      rcases (show j = 0 ∨ j = 1 ∨ j = 2 ∨ j = 3 by omega) with rfl | rfl | rfl | rfl <;> simp <;> omega
    · simp only [Tr.size, smz]; simp; omega
    · rw [hk]
      simp [List.range_succ]
      omega
    · intro hc'
      unfold foldL foldN
      rw [hc']
      simp only [catL, catN, kidL, kidN, List.nil_append, Nat.zero_add]
      simp
      rw [show lo + a.size - 1 = e - 1 - d.size - c.size - b.size by omega, show lo + (a.size + b.size) - 1 = e - 1 - d.size - c.size by omega, show lo + (a.size + b.size + c.size) - 1 = e - 1 - d.size by omega, show lo + (a.size + b.size + c.size + d.size) - 1 = e - 1 by omega]
      exact ⟨rfl, rfl⟩

/-! A part by itself: the same tree, the same value. -/
theorem mis_same {ks ks' : Nat → Int} {e e' : Nat} : ∀ s, (∀ j, j < s → ks' (e' - j) = ks (e - j)) → mis ks' e' s = mis ks e s
  | 0, _ => rfl
  | s + 1, h => by
    rw [mis, mis, mis_same s (fun j hj => h j (by omega))]
    unfold ndA
    rw [h s (by omega)]
theorem At.same {ks ks' : Nat → Int} : ∀ {t t' : Tr} {e e' : Nat}, At ks t e → At ks' t' e' → t.size ≤ e' + 1 → (∀ j, j < t.size → ks' (e' - j) = ks (e - j)) → t' = t
  | .leaf, t', e, e', h, h', hs, hk => by
    have h0 : ndA ks' e' = 0 := by have := hk 0 (by simp [Tr.size]); simp at this; unfold ndA; rw [this]; exact h.1
    cases t' with
    | leaf => rfl
    | two a b => have := h'.1; omega
    | four a b c d => have := h'.1; omega
  | .two a b, t', e, e', ⟨hd, hz, hkk, ha, hb⟩, h', hs, hk => by
    simp only [Tr.size] at hs hk
    have za := a.size_pos
    have zb := b.size_pos
    have h0 : ndA ks' e' = 2 := by have := hk 0 (by omega); simp at this; unfold ndA; rw [this]; exact hd
    cases t' with
    | leaf => have := h'.1; omega
    | two a' b' =>
      obtain ⟨_, hz', _, ha', hb'⟩ := h'
      obtain rfl := hb.same hb' (by omega) (fun j hj => by have := hk (j + 1) (by omega); rw [show e' - 1 - j = e' - (j + 1) by omega, show e - 1 - j = e - (j + 1) by omega]; exact this)
      obtain rfl := ha.same ha' (by omega) (fun j hj => by have := hk (j + 1 + b'.size) (by omega); rw [show e' - 1 - b'.size - j = e' - (j + 1 + b'.size) by omega, show e - 1 - b'.size - j = e - (j + 1 + b'.size) by omega]; exact this)
      rfl
    | four a b c d => have := h'.1; omega
  | .four a b c d, t', e, e', ⟨hd, hz, hkk, ha, hb, hc, hdd⟩, h', hs, hk => by
    simp only [Tr.size] at hs hk
    have za := a.size_pos
    have zb := b.size_pos
    have zc := c.size_pos
    have zd := d.size_pos
    have h0 : ndA ks' e' = 4 := by have := hk 0 (by omega); simp at this; unfold ndA; rw [this]; exact hd
    cases t' with
    | leaf => have := h'.1; omega
    | two a' b' => have := h'.1; omega
    | four a' b' c' d' =>
      obtain ⟨_, hz', _, ha', hb', hc', hd'⟩ := h'
      obtain rfl := hdd.same hd' (by omega) (fun j hj => by have := hk (j + 1) (by omega); rw [show e' - 1 - j = e' - (j + 1) by omega, show e - 1 - j = e - (j + 1) by omega]; exact this)
      obtain rfl := hc.same hc' (by omega) (fun j hj => by have := hk (j + 1 + d'.size) (by omega); rw [show e' - 1 - d'.size - j = e' - (j + 1 + d'.size) by omega, show e - 1 - d'.size - j = e - (j + 1 + d'.size) by omega]; exact this)
      obtain rfl := hb.same hb' (by omega) (fun j hj => by have := hk (j + 1 + d'.size + c'.size) (by omega); rw [show e' - 1 - d'.size - c'.size - j = e' - (j + 1 + d'.size + c'.size) by omega, show e - 1 - d'.size - c'.size - j = e - (j + 1 + d'.size + c'.size) by omega]; exact this)
      obtain rfl := ha.same ha' (by omega) (fun j hj => by have := hk (j + 1 + d'.size + c'.size + b'.size) (by omega); rw [show e' - 1 - d'.size - c'.size - b'.size - j = e' - (j + 1 + d'.size + c'.size + b'.size) by omega, show e - 1 - d'.size - c'.size - b'.size - j = e - (j + 1 + d'.size + c'.size + b'.size) by omega]; exact this)
      rfl
/-- The value does not ask for more than the part itself, and without fields not for the fields. -/
theorem ev_same {ks ks' vs vs' : Nat → Int} {fs fs' : List Int} : ∀ (t : Tr) (e e' : Nat), At ks t e → t.size ≤ e + 1 → t.size ≤ e' + 1 → (∀ j, j < t.size → ks' (e' - j) = ks (e - j) ∧ vs' (e' - j) = vs (e - j)) → (fs = fs' ∨ ∀ j, j < t.size → (ks (e - j) ≠ 1 ∧ 0 ≤ ks (e - j))) → ev ks' vs' fs' t e' = ev ks vs fs t e
  | .leaf, e, e', hA, h1, h2, h, hf => by
    obtain ⟨k0, v0⟩ := h 0 (by simp [Tr.size])
    simp at k0 v0
    unfold ev
    rw [k0, v0]
    by_cases hk : ks e = 0
    · rw [if_pos hk, if_pos hk]
    · rw [if_neg hk, if_neg hk]
      rcases hf with rfl | hf
      · rfl
      · have g := hf 0 (by simp [Tr.size])
        have := ndK_zero (k := ks e) hA.1
        simp at g
        omega
  | .two a b, e, e', ⟨_, hz, _, hA1, hA2⟩, h1, h2, h, hf => by
    simp only [Tr.size] at h1 h2 h hf
    have za := a.size_pos
    have zb := b.size_pos
    obtain ⟨k0, v0⟩ := h 0 (by omega)
    simp at k0
    unfold ev
    rw [k0]
    rw [ev_same a (e - 1 - b.size) (e' - 1 - b.size) hA1 (by omega) (by omega) (fun j hj => by have := h (j + 1 + b.size) (by omega); rw [show e' - 1 - b.size - j = e' - (j + 1 + b.size) by omega, show e - 1 - b.size - j = e - (j + 1 + b.size) by omega]; exact this) (hf.imp id fun g j hj => by have := g (j + 1 + b.size) (by omega); rw [show e - 1 - b.size - j = e - (j + 1 + b.size) by omega]; exact this),
      ev_same b (e - 1) (e' - 1) hA2 (by omega) (by omega) (fun j hj => by have := h (j + 1) (by omega); rw [show e' - 1 - j = e' - (j + 1) by omega, show e - 1 - j = e - (j + 1) by omega]; exact this) (hf.imp id fun g j hj => by have := g (j + 1) (by omega); rw [show e - 1 - j = e - (j + 1) by omega]; exact this)]
  | .four a b c d, e, e', ⟨_, hz, _, hA1, hA2, hA3, hA4⟩, h1, h2, h, hf => by
    simp only [Tr.size] at h1 h2 h hf
    have za := a.size_pos
    have zb := b.size_pos
    have zc := c.size_pos
    have zd := d.size_pos
    obtain ⟨k0, v0⟩ := h 0 (by omega)
    simp at k0
    unfold ev
    rw [k0]
    rw [ev_same a (e - 1 - d.size - c.size - b.size) (e' - 1 - d.size - c.size - b.size) hA1 (by omega) (by omega) (fun j hj => by have := h (j + 1 + d.size + c.size + b.size) (by omega); rw [show e' - 1 - d.size - c.size - b.size - j = e' - (j + 1 + d.size + c.size + b.size) by omega, show e - 1 - d.size - c.size - b.size - j = e - (j + 1 + d.size + c.size + b.size) by omega]; exact this) (hf.imp id fun g j hj => by have := g (j + 1 + d.size + c.size + b.size) (by omega); rw [show e - 1 - d.size - c.size - b.size - j = e - (j + 1 + d.size + c.size + b.size) by omega]; exact this),
      ev_same b (e - 1 - d.size - c.size) (e' - 1 - d.size - c.size) hA2 (by omega) (by omega) (fun j hj => by have := h (j + 1 + d.size + c.size) (by omega); rw [show e' - 1 - d.size - c.size - j = e' - (j + 1 + d.size + c.size) by omega, show e - 1 - d.size - c.size - j = e - (j + 1 + d.size + c.size) by omega]; exact this) (hf.imp id fun g j hj => by have := g (j + 1 + d.size + c.size) (by omega); rw [show e - 1 - d.size - c.size - j = e - (j + 1 + d.size + c.size) by omega]; exact this),
      ev_same c (e - 1 - d.size) (e' - 1 - d.size) hA3 (by omega) (by omega) (fun j hj => by have := h (j + 1 + d.size) (by omega); rw [show e' - 1 - d.size - j = e' - (j + 1 + d.size) by omega, show e - 1 - d.size - j = e - (j + 1 + d.size) by omega]; exact this) (hf.imp id fun g j hj => by have := g (j + 1 + d.size) (by omega); rw [show e - 1 - d.size - j = e - (j + 1 + d.size) by omega]; exact this),
      ev_same d (e - 1) (e' - 1) hA4 (by omega) (by omega) (fun j hj => by have := h (j + 1) (by omega); rw [show e' - 1 - j = e' - (j + 1) by omega, show e - 1 - j = e - (j + 1) by omega]; exact this) (hf.imp id fun g j hj => by have := g (j + 1) (by omega); rw [show e - 1 - j = e - (j + 1) by omega]; exact this)]
end Go.Proofs.Ytdodmcmkelegoaa
