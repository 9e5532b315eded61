/-
  Sections and profiles: plain facts.
-/
import Derived.Test.YtmkbjkmpincogaaW1
import Derived.Test.YtmkbjkmpincogaaM3
namespace Go.Proofs.Ytmkbjkmpincogaa
open Go.RowKit
set_option linter.unusedVariables false

/-- The depth of a section: the length of its first column. -/
def depD (xss : List (List Int)) : Nat := (xss.getD 0 []).length
/-- A section: 1 to 8 columns, each with as many values, at most 6. -/
def secB (xss : List (List Int)) : Bool := decide (1 ≤ xss.length ∧ xss.length ≤ 8) && (decide (depD xss ≤ 6) && xss.all fun l => valB (depD xss : Int) l)

theorem getL_mem {xss : List (List Int)} {k : Nat} (hk : k < xss.length) : xss.getD k [] ∈ xss := by
  rw [List.getD_eq_getElem?_getD, List.getElem?_eq_getElem hk]
  exact List.getElem_mem hk
theorem sec_short {xss : List (List Int)} (h : ¬ (1 ≤ xss.length ∧ xss.length ≤ 8)) : secB xss = false := by
  unfold secB; rw [decide_eq_false h]; rfl
theorem sec_deep {xss : List (List Int)} (h : ¬ depD xss ≤ 6) : secB xss = false := by
  unfold secB; rw [decide_eq_false h, Bool.false_and, Bool.and_false]
theorem sec_bad {xss : List (List Int)} {k : Nat} (hk : k < xss.length) (h : valB (depD xss : Int) (xss.getD k []) = false) : secB xss = false := by
  unfold secB
  have : (xss.all fun l => valB (depD xss : Int) l) = false := by
    rw [List.all_eq_false]
    exact ⟨_, getL_mem hk, by rw [h]; simp⟩
  rw [this]; simp
theorem sec_good {xss : List (List Int)} (h1 : 1 ≤ xss.length ∧ xss.length ≤ 8) (h2 : depD xss ≤ 6) (h : ∀ k : Nat, k < xss.length → valB (depD xss : Int) (xss.getD k []) = true) : secB xss = true := by
  unfold secB
  rw [decide_eq_true h1, decide_eq_true h2, Bool.true_and, Bool.true_and, List.all_eq_true]
  intro l hl
  obtain ⟨k, hk, rfl⟩ := List.mem_iff_getElem.1 hl
  have := h k hk
  rw [List.getD_eq_getElem?_getD, List.getElem?_eq_getElem hk] at this
  exact this
/-- What is known of a section. -/
structure Sec (xss : List (List Int)) (n D : Nat) : Prop where
  len : xss.length = n
  n1 : 1 ≤ n
  n2 : n ≤ 8
  d1 : 1 ≤ D
  d2 : D ≤ 6
  dep : depD xss = D
  col : ∀ c, c < n → (xss.getD c []).length = D
  box : ∀ c d, c < n → d < D → -1000000 ≤ (xss.getD c []).getD d 0 ∧ (xss.getD c []).getD d 0 ≤ 1000000
theorem sec_yes {xss : List (List Int)} (h : secB xss = true) : Sec xss xss.length (depD xss) := by
  unfold secB at h
  simp only [Bool.and_eq_true, decide_eq_true_eq, List.all_eq_true] at h
  obtain ⟨⟨h1, h2⟩, h3, h4⟩ := h
  have hc : ∀ c, c < xss.length → valB (depD xss : Int) (xss.getD c []) = true := fun c hc => h4 _ (getL_mem hc)
  have h0 := val_yes (hc 0 (by omega))
  refine ⟨rfl, h1, h2, by omega, h3, rfl, fun c hk => ?_, fun c d hk hd => ?_⟩
  · have := val_yes (hc c hk); omega
  · have := val_yes (hc c hk)
    exact wall_at this.2.2.2 (by omega)
theorem val_no {n : Int} {xs : List Int} (h : ¬ (xs.length : Int) = n ∨ ¬ (1 ≤ n ∧ n ≤ 120) ∨ wAll xs = false) : valB n xs = false := by
  unfold valB
  rcases h with h | h | h
  · rw [decide_eq_false h]; rfl
  · rw [decide_eq_false h]; simp
  · rw [h]; simp
theorem val_is {n : Int} {xs : List Int} (h : (xs.length : Int) = n) (h1 : 1 ≤ n ∧ n ≤ 120) (h2 : wAll xs = true) : valB n xs = true := by
  unfold valB
  rw [decide_eq_true h, decide_eq_true h1, h2]; rfl

/-- Neighbours differ by one at most. -/
def genB (p : List Int) : Bool := (List.range (p.length - 1)).all fun i => decide (p.getD (i + 1) 0 - p.getD i 0 ≤ 1 ∧ -1 ≤ p.getD (i + 1) 0 - p.getD i 0)
def GenTo (p : List Int) (k : Nat) : Prop := ∀ i, i + 1 < k → p.getD (i + 1) 0 - p.getD i 0 ≤ 1 ∧ -1 ≤ p.getD (i + 1) 0 - p.getD i 0
theorem gen_no {p : List Int} {i : Nat} (hi : i + 1 < p.length) (h : ¬ (p.getD (i + 1) 0 - p.getD i 0 ≤ 1 ∧ -1 ≤ p.getD (i + 1) 0 - p.getD i 0)) : genB p = false := by
  unfold genB
  rw [List.all_eq_false]
  exact ⟨i, List.mem_range.2 (by omega), by rw [decide_eq_false h]; simp⟩
theorem gen_yes {p : List Int} (h : GenTo p p.length) : genB p = true := by
  unfold genB
  rw [List.all_eq_true]
  intro i hi
  rw [List.mem_range] at hi
  exact decide_eq_true (h i (by omega))
theorem gen_to {p : List Int} (h : genB p = true) : GenTo p p.length := by
  unfold genB at h
  rw [List.all_eq_true] at h
  intro i hi
  have := h i (List.mem_range.2 (by omega))
  simpa using this
theorem GenTo.one (p : List Int) (k : Nat) (h : k ≤ 1) : GenTo p k := fun i hi => by omega
theorem GenTo.succ {p : List Int} {k : Nat} (h : GenTo p (k + 1)) (h2 : p.getD (k + 1) 0 - p.getD k 0 ≤ 1 ∧ -1 ≤ p.getD (k + 1) 0 - p.getD k 0) : GenTo p (k + 1 + 1) := fun i hi => by
  by_cases e : i = k
  · rw [e]; exact h2
  · exact h i (by omega)
/-- A profile of a section of n columns and depth D. -/
def proB (n D : Int) (p : List Int) : Bool := areB n D p && genB p
/-- A section and a profile of it. -/
def spB (xss : List (List Int)) (p : List Int) : Bool := secB xss && proB xss.length (depD xss) p
structure Pro (p : List Int) (n D : Nat) : Prop where
  len : p.length = n
  box : ∀ c, c < n → 0 ≤ p.getD c 0 ∧ p.getD c 0 ≤ D
theorem are_yes {n D : Nat} {p : List Int} (h : areB n D p = true) : Pro p n D := by
  unfold areB at h
  rw [Bool.and_eq_true, decide_eq_true_eq] at h
  have hl : p.length = n := by omega
  refine ⟨hl, fun c hc => ?_⟩
  have := h.2
  unfold allB at this
  rw [List.all_eq_true] at this
  simpa using this _ (getD_mem (by omega))

/-- The first d numbers of a column together. -/
def preS (l : List Int) : Nat → Int
  | 0 => 0
  | d + 1 => preS l d + l.getD d 0
theorem pre_box {l : List Int} {D : Nat} (h : ∀ d, d < D → -1000000 ≤ l.getD d 0 ∧ l.getD d 0 ≤ 1000000) : ∀ k, k ≤ D → -1000000 * (k : Int) ≤ preS l k ∧ preS l k ≤ 1000000 * (k : Int)
  | 0, _ => by simp [preS]
  | k + 1, hk => by
    have := pre_box h k (by omega)
    have := h k (by omega)
    rw [preS]
    omega
/-- What the mined blocks of the first k columns are worth. -/
def worS (xss : List (List Int)) (p : List Int) : Nat → Int
  | 0 => 0
  | k + 1 => worS xss p k + preS (xss.getD k []) (p.getD k 0).toNat
theorem wor_box {xss : List (List Int)} {p : List Int} {n D : Nat} (h : Sec xss n D) (hp : Pro p n D) : ∀ k, k ≤ n → -6000000 * (k : Int) ≤ worS xss p k ∧ worS xss p k ≤ 6000000 * (k : Int)
  | 0, _ => by simp [worS]
  | k + 1, hk => by
    have := wor_box h hp k (by omega)
    have hb := hp.box k (by omega)
    have := pre_box (fun d hd => h.box k d (by omega) hd) (p.getD k 0).toNat (by omega)
    have := h.d2
    rw [worS]
    omega
/-- The answers. -/
def wsA (xss : List (List Int)) (p : List Int) : Int := if spB xss p then worS xss p xss.length else 0

/-- The first k values of a function. -/
def upT (f : Nat → Int) (k : Nat) : List Int := (List.range k).map f
theorem upT_succ (f : Nat → Int) (k : Nat) : upT f (k + 1) = upT f k ++ [f k] := by simp [upT, List.range_succ]
theorem upT_len (f : Nat → Int) (k : Nat) : (upT f k).length = k := by simp [upT]
/-- The values level by level. -/
def lvF (xss : List (List Int)) (n : Nat) (i : Nat) : Int := (xss.getD (i % n) []).getD (i / n) 0
theorem lvF_at (xss : List (List Int)) {n c z : Nat} (hc : c < n) : lvF xss n (z * n + c) = (xss.getD c []).getD z 0 := by
  unfold lvF
  rw [show (z * n + c) % n = c by rw [Nat.mul_comm, Nat.mul_add_mod, Nat.mod_eq_of_lt hc], show (z * n + c) / n = z by rw [Nat.mul_comm, Nat.mul_add_div (by omega), Nat.div_eq_of_lt hc]; rfl]
def svL (xss : List (List Int)) : List Int := if secB xss then upT (lvF xss xss.length) (depD xss * xss.length) else []
/-- The mined blocks. -/
def miB (p : List Int) (n : Nat) : Int → Bool := fun i => decide ((i.toNat / n : Nat) < p.getD (i.toNat % n) 0)
theorem miB_at (p : List Int) {n c z : Nat} (hc : c < n) : miB p n ((z * n + c : Nat) : Int) = decide ((z : Int) < p.getD c 0) := by
  unfold miB
  rw [Int.toNat_natCast, show (z * n + c) % n = c by rw [Nat.mul_comm, Nat.mul_add_mod, Nat.mod_eq_of_lt hc], show (z * n + c) / n = z by rw [Nat.mul_comm, Nat.mul_add_div (by omega), Nat.div_eq_of_lt hc]; rfl]
def pbL (xss : List (List Int)) (p : List Int) : List Int := if spB xss p then sel (miB p xss.length) (depD xss * xss.length) else []

/-- Depths fitted from the first column to the last one: after k steps. -/
def fwL (f : Int → Int → Int) (xs : List Int) : Nat → List Int
  | 0 => xs
  | k + 1 => (fwL f xs k).set (k + 1) (f ((fwL f xs k).getD (k + 1) 0) ((fwL f xs k).getD k 0))
/-- .. and back, from the last column but one: after k steps of n - 1. -/
def bwL (f : Int → Int → Int) (xs : List Int) : Nat → List Int
  | 0 => xs
  | k + 1 => (bwL f xs k).set (xs.length - 2 - k) (f ((bwL f xs k).getD (xs.length - 2 - k) 0) ((bwL f xs k).getD (xs.length - 2 - k + 1) 0))
theorem fw_len (f : Int → Int → Int) (xs : List Int) : ∀ k, (fwL f xs k).length = xs.length
  | 0 => rfl
  | k + 1 => by rw [fwL, List.length_set, fw_len f xs k]
theorem bw_len (f : Int → Int → Int) (xs : List Int) : ∀ k, (bwL f xs k).length = xs.length
  | 0 => rfl
  | k + 1 => by rw [bwL, List.length_set, bw_len f xs k]
/-- All numbers lie within 0 and M. -/
def In0 (M : Int) (xs : List Int) : Prop := ∀ i, i < xs.length → 0 ≤ xs.getD i 0 ∧ xs.getD i 0 ≤ M
theorem In0.set {M : Int} {xs : List Int} (h : In0 M xs) {i : Nat} {t : Int} (ht : 0 ≤ t ∧ t ≤ M) : In0 M (xs.set i t) := fun j hj => by
  rw [List.length_set] at hj
  by_cases e : i = j
  · subst e
    rw [show (xs.set i t).getD i 0 = t by simp [hj]]
    exact ht
  · rw [show (xs.set i t).getD j 0 = xs.getD j 0 by simp [List.getD_eq_getElem?_getD, e]]
    exact h j hj
def Fits (f : Int → Int → Int) : Prop := ∀ M a b : Int, 0 ≤ a → a ≤ M → 0 ≤ b → b ≤ M → 0 ≤ f a b ∧ f a b ≤ M
theorem fw_in {f : Int → Int → Int} (hf : Fits f) {M : Int} {xs : List Int} (h : In0 M xs) : ∀ k, k + 1 ≤ xs.length → In0 M (fwL f xs k)
  | 0, _ => h
  | k + 1, hk => by
    have ih := fw_in hf h k (by omega)
    have a := ih (k + 1) (by rw [fw_len]; omega)
    have b := ih k (by rw [fw_len]; omega)
    exact ih.set (hf M _ _ a.1 a.2 b.1 b.2)
theorem bw_in {f : Int → Int → Int} (hf : Fits f) {M : Int} {xs : List Int} (h : In0 M xs) : ∀ k, k + 1 ≤ xs.length → In0 M (bwL f xs k)
  | 0, _ => h
  | k + 1, hk => by
    have ih := bw_in hf h k (by omega)
    have a := ih (xs.length - 2 - k) (by rw [bw_len]; omega)
    have b := ih (xs.length - 2 - k + 1) (by rw [bw_len]; omega)
    exact ih.set (hf M _ _ a.1 a.2 b.1 b.2)
/-- Depths fitted to each other. -/
def fitL (f : Int → Int → Int) (xs : List Int) : List Int := bwL f (fwL f xs (xs.length - 1)) (xs.length - 1)
theorem fit_len (f : Int → Int → Int) (xs : List Int) : (fitL f xs).length = xs.length := by unfold fitL; rw [bw_len, fw_len]
def fMax : Int → Int → Int := fun a b => max a (b - 1)
def fMin : Int → Int → Int := fun a b => min a (b + 1)
theorem fits_max : Fits fMax := fun M a b h1 h2 h3 h4 => by unfold fMax; omega
theorem fits_min : Fits fMin := fun M a b h1 h2 h3 h4 => by unfold fMin; omega
/-- A section and depths for it. -/
def sdB (xss : List (List Int)) (p : List Int) : Bool := secB xss && areB xss.length (depD xss) p
def lpL (f : Int → Int → Int) (xss : List (List Int)) (p : List Int) : List Int := if sdB xss p then fitL f p else []
end Go.Proofs.Ytmkbjkmpincogaa
