/-
  A rule's last part and the rules that it needs, one behind the other: plain facts.
-/
import Derived.Test.YtdgkgnlilcbggaaDoorU1
namespace Go.Proofs.YtdgkgnlilcbggaaDoor
set_option linter.unusedVariables false

/-- The parts from lo on, len of them, are the m trees kd 0, kd 1, .. and one part more that needs them; tree j begins of j parts behind lo. -/
structure Split (ks : Nat → Int) (lo len m : Nat) (kd : Nat → Tr) (of : Nat → Nat) : Prop where
  nd : ndA ks (lo + len - 1) = m
  zero : of 0 = 0
  last : of m + 1 = len
  next : ∀ j, j < m → of (j + 1) = of j + (kd j).size
  at_ : ∀ j, j < m → At ks (kd j) (lo + of (j + 1) - 1)
theorem Split.up {ks : Nat → Int} {lo len m : Nat} {kd : Nat → Tr} {of : Nat → Nat} (h : Split ks lo len m kd of) : ∀ d j, j + d = m → of j + 1 ≤ len
  | 0, j, e => by have := h.last; rw [show j = m by omega]; omega
  | d + 1, j, e => by
    have := h.up d (j + 1) (by omega)
    have := h.next j (by omega)
    omega
theorem Split.le {ks : Nat → Int} {lo len m : Nat} {kd : Nat → Tr} {of : Nat → Nat} (h : Split ks lo len m kd of) {j : Nat} (hj : j ≤ m) : of j + 1 ≤ len := h.up (m - j) j (by omega)
/-- The greatest depth of the first trees; their sizes together. -/
def mxd (kd : Nat → Tr) : Nat → Nat
  | 0 => 0
  | j + 1 => max (mxd kd j) (kd j).depth
def smz (kd : Nat → Tr) : Nat → Nat
  | 0 => 0
  | j + 1 => smz kd j + (kd j).size
theorem split_ex {ks : Nat → Int} {e lo : Nat} : ∀ {t : Tr}, At ks t e → lo + t.size = e + 1 → ∃ m kd of, Split ks lo t.size m kd of ∧ m ≤ 4 ∧ (∀ j, j < m → (kd j).size < t.size) ∧ t.depth = mxd kd m + 1 ∧ t.size = smz kd m + 1 ∧ kid ks e = (List.range m).map (fun j => lo + of (j + 1) - 1)
  | .leaf, h, hl => by
    refine ⟨0, fun _ => .leaf, fun _ => 0, ⟨?_, rfl, rfl, fun j hj => by omega, fun j hj => by omega⟩, by omega, fun j hj => by omega, rfl, rfl, by rw [h.2]; rfl⟩
    rw [show lo + Tr.leaf.size - 1 = e by omega]; exact h.1
  | .two a b, ⟨hd, hz, hk, ha, hb⟩, hl => by
    simp only [Tr.size] at hl
    have za := a.size_pos
    have zb := b.size_pos
    refine ⟨2, fun j => if j = 0 then a else b, fun j => if j = 0 then 0 else if j = 1 then a.size else a.size + b.size, ⟨?_, rfl, ?_, ?_, ?_⟩, by omega, ?_, ?_, ?_, ?_⟩
    · rw [show lo + (Tr.two a b).size - 1 = e by simp only [Tr.size]; omega]; exact hd
    · simp only [Tr.size]; simp; omega
    · intro j hj
      rcases (show j = 0 ∨ j = 1 by omega) with rfl | rfl <;> simp
    · intro j hj
      rcases (show j = 0 ∨ j = 1 by omega) with rfl | rfl
      · simp; rw [show lo + a.size - 1 = e - 1 - b.size by omega]; exact ha
      · simp; rw [show lo + (a.size + b.size) - 1 = e - 1 by omega]; exact hb
    · intro j hj
      simp only [Tr.size]
      rcases (show j = 0 ∨ j = 1 by omega) with rfl | rfl <;> simp <;> omega
    · simp only [Tr.depth, mxd]; simp
    · simp only [Tr.size, smz]; simp; omega
    · rw [hk]
      simp [List.range_succ]
      omega
  | .four a b c d, ⟨hd, hz, hk, ha, hb, hc, hdd⟩, hl => by
    simp only [Tr.size] at hl
    have za := a.size_pos
    have zb := b.size_pos
    have zc := c.size_pos
    have zd := d.size_pos
    refine ⟨4, fun j => if j = 0 then a else if j = 1 then b else if j = 2 then c else d, fun j => if j = 0 then 0 else if j = 1 then a.size else if j = 2 then a.size + b.size else if j = 3 then a.size + b.size + c.size else a.size + b.size + c.size + d.size, ⟨?_, rfl, ?_, ?_, ?_⟩, by omega, ?_, ?_, ?_, ?_⟩
    · rw [show lo + (Tr.four a b c d).size - 1 = e by simp only [Tr.size]; omega]; exact hd
    · simp only [Tr.size]; simp; omega
    · intro j hj
      rcases (show j = 0 ∨ j = 1 ∨ j = 2 ∨ j = 3 by omega) with rfl | rfl | rfl | rfl <;> simp
    · intro j hj
      rcases (show j = 0 ∨ j = 1 ∨ j = 2 ∨ j = 3 by omega) with rfl | rfl | rfl | rfl
      · simp; rw [show lo + a.size - 1 = e - 1 - d.size - c.size - b.size by omega]; exact ha
      · simp; rw [show lo + (a.size + b.size) - 1 = e - 1 - d.size - c.size by omega]; exact hb
      · simp; rw [show lo + (a.size + b.size + c.size) - 1 = e - 1 - d.size by omega]; exact hc
      · simp; rw [show lo + (a.size + b.size + c.size + d.size) - 1 = e - 1 by omega]; exact hdd
    · intro j hj
      simp only [Tr.size]
      rcases (show j = 0 ∨ j = 1 ∨ j = 2 ∨ j = 3 by omega) with rfl | rfl | rfl | rfl <;> simp <;> omega
    · simp only [Tr.depth, mxd]; simp
    · simp only [Tr.size, smz]; simp; omega
    · rw [hk]
      simp [List.range_succ]
      omega
end Go.Proofs.YtdgkgnlilcbggaaDoor
