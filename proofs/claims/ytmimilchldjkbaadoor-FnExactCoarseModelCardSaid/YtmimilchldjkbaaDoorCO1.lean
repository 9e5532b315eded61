/-
  Coarse models: plain facts.
-/
import Derived.Test.YtmimilchldjkbaaDoorJ1
import Derived.Test.YtmimilchldjkbaaDoorQ3
import Derived.Test.YtmimilchldjkbaaDoorM5
namespace Go.Proofs.YtmimilchldjkbaaDoor
set_option linter.unusedVariables false

/-- The coarse block of block i. -/
def coK (x y i : Nat) : Nat := (i / x / y * ((y + 1) / 2) + i / x % y / 2) * ((x + 1) / 2) + i % x / 2
/-- How many of the first n blocks lie in coarse block k. -/
def coC (x y k : Nat) : Nat → Nat
  | 0 => 0
  | i + 1 => coC x y k i + (if coK x y i = k then 1 else 0)
def coQ (x y z : Nat) : Nat := (x + 1) / 2 * ((y + 1) / 2) * z
set_option maxRecDepth 100000 in
theorem co_check : ((List.range 8).all fun x => (List.range 6).all fun y => (List.range 5).all fun z => if (x + 1) * (y + 1) * (z + 1) ≤ 120 then (List.range (coQ (x + 1) (y + 1) (z + 1))).all fun k => (fun c => decide (1 ≤ c) && decide (c ≤ 4)) (coC (x + 1) (y + 1) k ((x + 1) * (y + 1) * (z + 1))) else true) = true := by decide +kernel
theorem co_four {x y z k : Nat} (x1 : 1 ≤ x) (x2 : x ≤ 8) (y1 : 1 ≤ y) (y2 : y ≤ 6) (z1 : 1 ≤ z) (z2 : z ≤ 5) (h : x * y * z ≤ 120) (hk : k < coQ x y z) : 1 ≤ coC x y k (x * y * z) ∧ coC x y k (x * y * z) ≤ 4 := by
  have c := co_check
  rw [List.all_eq_true] at c
  have c1 := c (x - 1) (List.mem_range.2 (by omega))
  rw [List.all_eq_true] at c1
  have c2 := c1 (y - 1) (List.mem_range.2 (by omega))
  rw [List.all_eq_true] at c2
  have c3 := c2 (z - 1) (List.mem_range.2 (by omega))
  rw [show x - 1 + 1 = x by omega, show y - 1 + 1 = y by omega, show z - 1 + 1 = z by omega, if_pos h, List.all_eq_true] at c3
  have c4 := c3 k (List.mem_range.2 hk)
  simpa using c4

theorem coV_nat {x y z i : Nat} (hg : goodB (x : Int) (y : Int) (z : Int) = true) (hi : i < x * y * z) : coV (x : Int) (y : Int) (z : Int) (i : Int) = (coK x y i : Nat) := by
  have hh : hasB (x : Int) (y : Int) (z : Int) (i : Int) = true := by
    unfold hasB
    rw [hg, Bool.true_and, decide_eq_true_eq]
    refine ⟨by omega, ?_⟩
    have : ((x * y * z : Nat) : Int) = (x : Int) * (y : Int) * (z : Int) := by simp
    omega
  have ha := coarse_in hh
  unfold coV atW coK
  rw [if_pos hh, if_pos ha]
  simp
theorem coK_lt {x y z i : Nat} (hg : goodB (x : Int) (y : Int) (z : Int) = true) (hi : i < x * y * z) : coK x y i < coQ x y z := by
  have x1 := (good_true hg).1
  have hxp : 0 < x := by omega
  have y1 := (good_true hg).2.2.1
  have hyp : 0 < y := by omega
  have a1 : i / x / y < z := by
    rw [Nat.div_div_eq_div_mul]
    exact Nat.div_lt_of_lt_mul hi
  have a2 : i / x % y / 2 < (y + 1) / 2 := by have := Nat.mod_lt (i / x) hyp; omega
  have a3 : i % x / 2 < (x + 1) / 2 := by have := Nat.mod_lt i hxp; omega
  unfold coK coQ
  generalize i / x / y = c at *
  generalize i / x % y / 2 = b at *
  generalize i % x / 2 = a at *
  generalize (x + 1) / 2 = X at *
  generalize (y + 1) / 2 = Y at *
  have b1 : c * Y + b < z * Y := by
    have := Nat.mul_le_mul_right Y (show c + 1 ≤ z from a1)
    rw [Nat.succ_mul] at this
    omega
  have b2 : (c * Y + b) * X + a < z * Y * X := by
    have := Nat.mul_le_mul_right X (show c * Y + b + 1 ≤ z * Y from b1)
    rw [Nat.succ_mul] at this
    omega
  rw [show X * Y * z = z * Y * X by rw [Nat.mul_comm X Y, Nat.mul_comm (Y * X) z, ← Nat.mul_assoc]]
  exact b2

/-- The pieces of the first n blocks that lie in coarse block k. -/
def cpL (x y : Nat) (ts gs rs : List Int) (k : Nat) : Nat → List Int
  | 0 => []
  | i + 1 => cpL x y ts gs rs k i ++ (if coK x y i = k then [ts.getD i 0, metal ts gs i, rs.getD i 0] else [])
theorem cpL_len (x y : Nat) (ts gs rs : List Int) (k : Nat) : ∀ n, (cpL x y ts gs rs k n).length = coC x y k n * 3
  | 0 => rfl
  | i + 1 => by
    rw [cpL, coC, List.length_append, cpL_len x y ts gs rs k i]
    split <;> simp <;> omega
theorem cpL_hit {x y : Nat} {ts gs rs : List Int} {k i : Nat} (h : coK x y i = k) : cpL x y ts gs rs k (i + 1) = cpL x y ts gs rs k i ++ [ts.getD i 0, metal ts gs i, rs.getD i 0] := by rw [cpL, if_pos h]
theorem cpL_miss {x y : Nat} {ts gs rs : List Int} {k i : Nat} (h : coK x y i ≠ k) : cpL x y ts gs rs k (i + 1) = cpL x y ts gs rs k i := by rw [cpL, if_neg h, List.append_nil]
theorem PieTo.app {xs : List Int} {n : Nat} {a b c : Int} (h : PieTo xs n) (hl : xs.length = n * 3) (hp : pieB a b c = true) : PieTo (xs ++ [a, b, c]) (n + 1) := fun j hj => by
  by_cases e : j < n
  · have g : ∀ q, q < xs.length → (xs ++ [a, b, c]).getD q 0 = xs.getD q 0 := fun q hq => by simp [List.getD_eq_getElem?_getD, List.getElem?_append_left hq]
    rw [g _ (by omega), g _ (by omega), g _ (by omega)]
    exact h j e
  · obtain rfl : j = n := by omega
    rw [← hl]
    have g : ∀ q, (xs ++ [a, b, c]).getD (xs.length + q) 0 = [a, b, c].getD q 0 := fun q => by rw [List.getD_eq_getElem?_getD, List.getD_eq_getElem?_getD, List.getElem?_append_right (by omega), Nat.add_sub_cancel_left]
    rw [show xs.length = xs.length + 0 from rfl, g 0, Nat.add_zero, g 1, g 2]
    exact hp
theorem cpL_pie {x y : Nat} {ts gs rs : List Int} {k : Nat} : ∀ n, (∀ i, i < n → pieB (ts.getD i 0) (metal ts gs i) (rs.getD i 0) = true) → PieTo (cpL x y ts gs rs k n) (coC x y k n)
  | 0, _ => PieTo.zero _
  | i + 1, h => by
    have ih := cpL_pie (x := x) (y := y) (k := k) i (fun j hj => h j (by omega))
    rw [cpL, coC]
    split
    · exact ih.app (cpL_len ..) (h i (by omega))
    · rw [List.append_nil]; exact ih

section
variable (x y : Nat) (ts gs rs : List Int) (N : Nat)
/-- The joined piece of coarse block k. -/
def cjT (k : Nat) : Int := suF (cpL x y ts gs rs k N) 0 (coC x y k N)
def cjM (k : Nat) : Int := suF (cpL x y ts gs rs k N) 1 (coC x y k N)
def cjR (k : Nat) : Int := (bestR (rkT (cpL x y ts gs rs k N) (coC x y k N)) 5 : Int)
def cjG (k : Nat) : Int := rgV (cjT x y ts gs rs N k) (cjM x y ts gs rs N k)
def cjB (k : Nat) : Bool := decide (cjT x y ts gs rs N k ≤ 10000)
def cjAll : Nat → Bool
  | 0 => true
  | k + 1 => cjAll k && cjB x y ts gs rs N k
def cjGap : Nat → Int
  | 0 => 0
  | k + 1 => cjGap k + (cjT x y ts gs rs N k * cjG x y ts gs rs N k - cjM x y ts gs rs N k)
end
theorem cjAll_no {x y : Nat} {ts gs rs : List Int} {N : Nat} : ∀ {n k : Nat}, k < n → cjB x y ts gs rs N k = false → cjAll x y ts gs rs N n = false
  | n + 1, k, hk, h => by
    by_cases e : k = n
    · subst e; rw [cjAll, h, Bool.and_false]
    · rw [cjAll, cjAll_no (n := n) (by omega) h]; rfl
theorem cj_box {x y : Nat} {ts gs rs : List Int} {N k : Nat} (hp : PieTo (cpL x y ts gs rs k N) (coC x y k N)) (hb : cjB x y ts gs rs N k = true) :
    (0 ≤ cjT x y ts gs rs N k ∧ cjT x y ts gs rs N k ≤ 10000) ∧ (0 ≤ cjM x y ts gs rs N k ∧ cjM x y ts gs rs N k ≤ 10000000) ∧ (0 ≤ cjR x y ts gs rs N k ∧ cjR x y ts gs rs N k ≤ 4) ∧ (0 ≤ cjG x y ts gs rs N k ∧ cjG x y ts gs rs N k ≤ 1000) := by
  obtain ⟨a, b, c, d⟩ := suF_box _ hp
  have hb' : cjT x y ts gs rs N k ≤ 10000 := of_decide_eq_true hb
  have a' : 0 ≤ cjT x y ts gs rs N k := a
  have c' : 0 ≤ cjM x y ts gs rs N k := c
  have d' : cjM x y ts gs rs N k ≤ 1000 * cjT x y ts gs rs N k := d
  have hr := bestR_lt (rkT (cpL x y ts gs rs k N) (coC x y k N)) 5
  refine ⟨⟨a', hb'⟩, ⟨c', by omega⟩, ⟨by unfold cjR; omega, by unfold cjR; omega⟩, ?_⟩
  unfold cjG rgV
  generalize cjT x y ts gs rs N k = t at *
  generalize cjM x y ts gs rs N k = m at *
  split
  · omega
  · rename_i h0
    refine ⟨Int.ediv_nonneg (by omega) (by omega), ?_⟩
    have : (2 * m + t - 1) / (2 * t) < 1001 := Int.ediv_lt_of_lt_mul (by omega) (by omega)
    omega
theorem cjGap_box {x y : Nat} {ts gs rs : List Int} {N : Nat} (hp : ∀ k, PieTo (cpL x y ts gs rs k N) (coC x y k N)) : ∀ n, cjAll x y ts gs rs N n = true → -(20000000 * (n : Int)) ≤ cjGap x y ts gs rs N n ∧ cjGap x y ts gs rs N n ≤ 20000000 * (n : Int)
  | 0, _ => by simp [cjGap]
  | n + 1, h => by
    rw [cjAll, Bool.and_eq_true] at h
    have ih := cjGap_box hp n h.1
    obtain ⟨⟨a1, a2⟩, ⟨b1, b2⟩, _, ⟨c1, c2⟩⟩ := cj_box (hp n) h.2
    obtain ⟨m1, m2⟩ := mul_box (a := cjT x y ts gs rs N n) (b := cjG x y ts gs rs N n) (m := 10000) (n := 1000) a1 a2 c1 c2
    rw [cjGap]
    have e : (20000000 * ((n + 1 : Nat) : Int)) = 20000000 * (n : Int) + 20000000 := by omega
    rw [e]
    omega
/-- A list by its places. -/
def byP (f : Nat → Int) (n : Nat) : List Int := (List.range n).map f
theorem byP_len (f : Nat → Int) (n : Nat) : (byP f n).length = n := by simp [byP]
theorem byP_go (f : Nat → Int) (n : Nat) : byP f (n + 1) = byP f n ++ [f n] := by simp [byP, List.range_succ]
end Go.Proofs.YtmimilchldjkbaaDoor
