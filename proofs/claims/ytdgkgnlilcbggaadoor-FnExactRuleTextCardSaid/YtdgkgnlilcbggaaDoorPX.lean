/-
  The text of a rule: plain.
-/
import Derived.Test.YtdgkgnlilcbggaaDoorF1
import Derived.Test.YtdgkgnlilcbggaaDoorE2
import Derived.Test.YtdgkgnlilcbggaaDoorTX1
namespace Go.Proofs.YtdgkgnlilcbggaaDoor
set_option linter.unusedVariables false
set_option linter.unusedSimpArgs false

def par (b : Bool) (s : ByteArray) : ByteArray := if b then ⟨#[40, 32]⟩ ++ s ++ ⟨#[32, 41]⟩ else s
theorem par_size (b : Bool) (s : ByteArray) : (par b s).size ≤ s.size + 4 := by
  unfold par
  split
  · rw [ByteArray.size_append, ByteArray.size_append]
    show 2 + _ + 2 ≤ _
    omega
  · omega
def fnm : Nat → ByteArray
  | 0 => ⟨#[116, 111, 110, 110, 101, 115]⟩
  | 1 => ⟨#[103, 114, 97, 100, 101]⟩
  | 2 => ⟨#[114, 111, 99, 107]⟩
  | 3 => ⟨#[108, 101, 118, 101, 108]⟩
  | _ => ⟨#[109, 101, 116, 97, 108]⟩
theorem fnm_size : ∀ n, (fnm n).size ≤ 6
  | 0 => by decide
  | 1 => by decide
  | 2 => by decide
  | 3 => by decide
  | n + 4 => by show (5 : Nat) ≤ 6; decide
def sgm : Nat → ByteArray
  | 2 => ⟨#[43]⟩
  | 3 => ⟨#[45]⟩
  | 4 => ⟨#[42]⟩
  | 5 => ⟨#[47]⟩
  | 6 => ⟨#[60]⟩
  | 7 => ⟨#[61]⟩
  | 8 => ⟨#[62]⟩
  | _ => ⟨#[]⟩
theorem sgm_size (n : Nat) : (sgm n).size ≤ 1 := by
  unfold sgm
  split <;> decide
/-- A sign between two texts. -/
def sgn3 (n : Nat) : ByteArray := ⟨#[32]⟩ ++ sgm n ++ ⟨#[32]⟩
theorem sgn3_size (n : Nat) : (sgn3 n).size ≤ 3 := by
  unfold sgn3
  rw [ByteArray.size_append, ByteArray.size_append]
  have := sgm_size n
  show 1 + _ + 1 ≤ 3
  omega
/-- The text of a rule by its last part; X: the text of a part at a binding. -/
def topX (k v : Int) (X : Nat → Int → ByteArray) : ByteArray :=
  if k = 0 then itS v else if k ≤ 1 then fnm v.toNat else if k ≤ 5 then X 0 (bindK k) ++ sgn3 k.toNat ++ X 1 (bindK k + 1)
  else ⟨#[105, 102, 32]⟩ ++ (X 0 1 ++ sgn3 k.toNat ++ X 1 1) ++ ⟨#[32, 116, 104, 101, 110, 32]⟩ ++ X 2 0 ++ ⟨#[32, 101, 108, 115, 101, 32]⟩ ++ X 3 0
def tx (ks vs : Nat → Int) : Tr → Nat → ByteArray
  | .leaf, e => topX (ks e) (vs e) fun _ _ => ⟨#[]⟩
  | .two a b, e => topX (ks e) (vs e) fun j β => if j = 0 then par (decide (bindK (ks (e - 1 - b.size)) < β)) (tx ks vs a (e - 1 - b.size)) else par (decide (bindK (ks (e - 1)) < β)) (tx ks vs b (e - 1))
  | .four a b c d, e => topX (ks e) (vs e) fun j β =>
    if j = 0 then par (decide (bindK (ks (e - 1 - d.size - c.size - b.size)) < β)) (tx ks vs a (e - 1 - d.size - c.size - b.size))
    else if j = 1 then par (decide (bindK (ks (e - 1 - d.size - c.size)) < β)) (tx ks vs b (e - 1 - d.size - c.size))
    else if j = 2 then par (decide (bindK (ks (e - 1 - d.size)) < β)) (tx ks vs c (e - 1 - d.size))
    else par (decide (bindK (ks (e - 1)) < β)) (tx ks vs d (e - 1))
def kX (ks vs : Nat → Int) (lo : Nat) (kd : Nat → Tr) (of : Nat → Nat) (j : Nat) (β : Int) : ByteArray := par (decide (bindK (ks (lo + of (j + 1) - 1)) < β)) (tx ks vs (kd j) (lo + of (j + 1) - 1))
theorem topX_leaf {k v : Int} (h : k ≤ 1) (X Y : Nat → Int → ByteArray) : topX k v X = topX k v Y := by
  unfold topX
  by_cases h0 : k = 0
  · rw [if_pos h0, if_pos h0]
  · rw [if_neg h0, if_neg h0, if_pos h, if_pos h]
theorem topX_two {k v : Int} (h0 : ¬ k = 0) (h1 : ¬ k ≤ 1) (h5 : k ≤ 5) (X : Nat → Int → ByteArray) : topX k v X = X 0 (bindK k) ++ sgn3 k.toNat ++ X 1 (bindK k + 1) := by
  unfold topX
  rw [if_neg h0, if_neg h1, if_pos h5]
theorem topX_four {k v : Int} (h0 : ¬ k = 0) (h1 : ¬ k ≤ 1) (h5 : ¬ k ≤ 5) (X : Nat → Int → ByteArray) : topX k v X = ⟨#[105, 102, 32]⟩ ++ (X 0 1 ++ sgn3 k.toNat ++ X 1 1) ++ ⟨#[32, 116, 104, 101, 110, 32]⟩ ++ X 2 0 ++ ⟨#[32, 101, 108, 115, 101, 32]⟩ ++ X 3 0 := by
  unfold topX
  rw [if_neg h0, if_neg h1, if_neg h5]
theorem tx_leaf {ks vs : Nat → Int} {e : Nat} (h : ndA ks e = 0) {X : Nat → Int → ByteArray} : tx ks vs .leaf e = topX (ks e) (vs e) X := topX_leaf (ndK_zero h) _ _
theorem tx_two {ks vs : Nat → Int} {e : Nat} {a b : Tr} {X : Nat → Int → ByteArray} (h : ndA ks e = 2) (h0 : ∀ β, X 0 β = par (decide (bindK (ks (e - 1 - b.size)) < β)) (tx ks vs a (e - 1 - b.size))) (h1 : ∀ β, X 1 β = par (decide (bindK (ks (e - 1)) < β)) (tx ks vs b (e - 1))) :
    tx ks vs (.two a b) e = topX (ks e) (vs e) X := by
  obtain ⟨a1, a2, a3⟩ := ndK_two h
  rw [topX_two a1 a2 a3, h0, h1, tx, topX_two a1 a2 a3]
  rfl
theorem tx_four {ks vs : Nat → Int} {e : Nat} {a b c d : Tr} {X : Nat → Int → ByteArray} (h : ndA ks e = 4) (h0 : ∀ β, X 0 β = par (decide (bindK (ks (e - 1 - d.size - c.size - b.size)) < β)) (tx ks vs a (e - 1 - d.size - c.size - b.size)))
    (h1 : ∀ β, X 1 β = par (decide (bindK (ks (e - 1 - d.size - c.size)) < β)) (tx ks vs b (e - 1 - d.size - c.size))) (h2 : ∀ β, X 2 β = par (decide (bindK (ks (e - 1 - d.size)) < β)) (tx ks vs c (e - 1 - d.size))) (h3 : ∀ β, X 3 β = par (decide (bindK (ks (e - 1)) < β)) (tx ks vs d (e - 1))) :
    tx ks vs (.four a b c d) e = topX (ks e) (vs e) X := by
  obtain ⟨a1, a2, a3⟩ := ndK_four h
  rw [topX_four a1 a2 a3, h0, h1, h2, h3, tx, topX_four a1 a2 a3]
  rfl
theorem tx_split {ks vs : Nat → Int} {e lo : Nat} : ∀ {t : Tr}, At ks t e → lo + t.size = e + 1 → ∃ m kd of, Split ks lo t.size m kd of ∧ m ≤ 4 ∧ (∀ j, j < m → (kd j).size < t.size) ∧ t.depth = mxd kd m + 1 ∧ t.size = smz kd m + 1 ∧ kid ks e = (List.range m).map (fun j => lo + of (j + 1) - 1) ∧ tx ks vs t e = topX (ks e) (vs e) (kX ks vs lo kd of)
  | .leaf, h, hl => by
    refine ⟨0, fun _ => .leaf, fun _ => 0, ⟨?_, rfl, rfl, fun j hj => by omega, fun j hj => by omega⟩, by omega, fun j hj => by omega, rfl, rfl, by rw [h.2]; rfl, tx_leaf h.1⟩
    rw [show lo + Tr.leaf.size - 1 = e by omega]; exact h.1
  | .two a b, ⟨hd, hz, hk, ha, hb⟩, hl => by
    simp only [Tr.size] at hl
    have za := a.size_pos
    have zb := b.size_pos
    refine ⟨2, fun j => if j = 0 then a else b, fun j => if j = 0 then 0 else if j = 1 then a.size else a.size + b.size, ⟨?_, rfl, ?_, ?_, ?_⟩, by omega, ?_, ?_, ?_, ?_, ?_⟩
    · rw [show lo + (Tr.two a b).size - 1 = e by simp only [Tr.size]; omega]; exact hd
    · simp only [Tr.size]; simp; omega
    · intro j hj
      rcases (show j = 0 ∨ j = 1 by omega) with rfl | rfl <;> simp
    · intro j hj
      rcases (show j = 0 ∨ j = 1 by omega) with rfl | rfl
      · simp; rw [show lo + a.size - 1 = e - 1 - b.size by omega]; exact ha
      · simp; rw [show lo + (a.size + b.size) - 1 = e - 1 by omega]; exact hb
    · intro j hj
      simp only [Tr.size]
      rcases (show j = 0 ∨ j = 1 by omega) with rfl | rfl <;> simp <;> omega
    · simp only [Tr.depth, mxd]; simp
    · simp only [Tr.size, smz]; simp; omega
    · rw [hk]
      simp [List.range_succ]
      omega
    · refine tx_two (X := kX ks vs lo (fun j => if j = 0 then a else b) (fun j => if j = 0 then 0 else if j = 1 then a.size else a.size + b.size)) hd ?_ ?_
      · intro β; unfold kX; simp; rw [show lo + a.size - 1 = e - 1 - b.size by omega]
      · intro β; unfold kX; simp; rw [show lo + (a.size + b.size) - 1 = e - 1 by omega]
  | .four a b c d, ⟨hd, hz, hk, ha, hb, hc, hdd⟩, hl => by
    simp only [Tr.size] at hl
    have za := a.size_pos
    have zb := b.size_pos
    have zc := c.size_pos
    have zd := d.size_pos
    refine ⟨4, fun j => if j = 0 then a else if j = 1 then b else if j = 2 then c else d, fun j => if j = 0 then 0 else if j = 1 then a.size else if j = 2 then a.size + b.size else if j = 3 then a.size + b.size + c.size else a.size + b.size + c.size + d.size, ⟨?_, rfl, ?_, ?_, ?_⟩, by omega, ?_, ?_, ?_, ?_, ?_⟩
    · rw [show lo + (Tr.four a b c d).size - 1 = e by simp only [Tr.size]; omega]; exact hd
    · simp only [Tr.size]; simp; omega
    · intro j hj
      rcases (show j = 0 ∨ j = 1 ∨ j = 2 ∨ j = 3 by omega) with rfl | rfl | rfl | rfl <;> simp
    · intro j hj
      rcases (show j = 0 ∨ j = 1 ∨ j = 2 ∨ j = 3 by omega) with rfl | rfl | rfl | rfl
      · simp; rw [show lo + a.size - 1 = e - 1 - d.size - c.size - b.size by omega]; exact ha
      · simp; rw [show lo + (a.size + b.size) - 1 = e - 1 - d.size - c.size by omega]; exact hb
      · simp; rw [show lo + (a.size + b.size + c.size) - 1 = e - 1 - d.size by omega]; exact hc
      · simp; rw [show lo + (a.size + b.size + c.size + d.size) - 1 = e - 1 by omega]; exact hdd
    · intro j hj
      simp only [Tr.size]
      rcases (show j = 0 ∨ j = 1 ∨ j = 2 ∨ j = 3 by omega) with rfl | rfl | rfl | rfl <;> simp <;> omega
    · simp only [Tr.depth, mxd]; simp
    · simp only [Tr.size, smz]; simp; omega
    · rw [hk]
      simp [List.range_succ]
      omega
    · refine tx_four (X := kX ks vs lo (fun j => if j = 0 then a else if j = 1 then b else if j = 2 then c else d) (fun j => if j = 0 then 0 else if j = 1 then a.size else if j = 2 then a.size + b.size else if j = 3 then a.size + b.size + c.size else a.size + b.size + c.size + d.size)) hd ?_ ?_ ?_ ?_
      · intro β; unfold kX; simp; rw [show lo + a.size - 1 = e - 1 - d.size - c.size - b.size by omega]
      · intro β; unfold kX; simp; rw [show lo + (a.size + b.size) - 1 = e - 1 - d.size - c.size by omega]
      · intro β; unfold kX; simp; rw [show lo + (a.size + b.size + c.size) - 1 = e - 1 - d.size by omega]
      · intro β; unfold kX; simp; rw [show lo + (a.size + b.size + c.size + d.size) - 1 = e - 1 by omega]

theorem tx_size (ks vs : Nat → Int) (K : Nat) : ∀ (t : Tr) (e lo : Nat), t.size ≤ K → At ks t e → lo + t.size = e + 1 → (∀ j, j < t.size → ks (lo + j) = 0 → 0 ≤ vs (lo + j) ∧ vs (lo + j) ≤ 1000000) → (tx ks vs t e).size ≤ 40 * t.size := by
  induction K with
  | zero =>
    intro t e lo hK
    have := t.size_pos
    omega
  | succ K IH =>
    intro t e lo hK hA hlo hv
    obtain ⟨m, kd, of, S, hm4, hsm, _, hsz, _, htx⟩ := tx_split (vs := vs) hA hlo
    have hnd : ndK (ks e) = m := by have := S.nd; rw [show lo + t.size - 1 = e by omega] at this; exact this
    have hk : ∀ j β, j < m → (kX ks vs lo kd of j β).size ≤ 40 * (kd j).size + 4 := fun j β hj => by
      have h1 := hsm j hj
      have h2 := S.next j hj
      have h3 := S.le (j := j + 1) (by omega)
      have h4 := (kd j).size_pos
      have := IH (kd j) (lo + of (j + 1) - 1) (lo + of j) (by omega) (S.at_ j hj) (by omega) (fun q hq h0 => by rw [Nat.add_assoc] at h0 ⊢; exact hv _ (by omega) h0)
      have hp := par_size (decide (bindK (ks (lo + of (j + 1) - 1)) < β)) (tx ks vs (kd j) (lo + of (j + 1) - 1))
      show (par _ _).size ≤ _
      omega
    rw [htx]
    have hs3 := sgn3_size (ks e).toNat
    by_cases k1 : ks e ≤ 1
    · unfold topX
      have hp := t.size_pos
      by_cases k0 : ks e = 0
      · rw [if_pos k0]
        have := hv (t.size - 1) (by omega)
        rw [show lo + (t.size - 1) = e by omega] at this
        have := itS_size (n := vs e) (by have := this k0; omega) (by have := this k0; omega)
        omega
      · rw [if_neg k0, if_pos k1]
        have := fnm_size (vs e).toNat
        omega
    · by_cases k5 : ks e ≤ 5
      · obtain rfl : m = 2 := by rw [← hnd]; unfold ndK; rw [if_neg k1, if_pos k5]
        have h0 := hk 0 (bindK (ks e)) (by omega)
        have h1 := hk 1 (bindK (ks e) + 1) (by omega)
        simp only [smz] at hsz
        rw [topX_two (by omega) k1 k5, ByteArray.size_append, ByteArray.size_append]
        omega
      · obtain rfl : m = 4 := by rw [← hnd]; unfold ndK; rw [if_neg k1, if_neg k5]
        have h0 := hk 0 1 (by omega)
        have h1 := hk 1 1 (by omega)
        have h2 := hk 2 0 (by omega)
        have h3 := hk 3 0 (by omega)
        simp only [smz] at hsz
        rw [topX_four (by omega) k1 k5]
        simp only [ByteArray.size_append]
        show 3 + (_ + _ + _) + 6 + _ + 6 + _ ≤ _
        omega
end Go.Proofs.YtdgkgnlilcbggaaDoor
