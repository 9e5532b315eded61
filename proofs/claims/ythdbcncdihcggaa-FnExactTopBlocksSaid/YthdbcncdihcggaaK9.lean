/-
  Arcs: plain facts.
-/
import Derived.Test.YthdbcncdihcggaaK8
import Derived.Test.YthdbcncdihcggaaC4
import Derived.Test.YthdbcncdihcggaaLP
namespace Go.Proofs.Ythdbcncdihcggaa
set_option linter.unusedVariables false

theorem posL_app (l : List Int) (k x : Int) (h : x < k) : posL (l ++ [k]) x = posL l x := by
  unfold posL
  rw [List.takeWhile_append]
  split
  · rename_i e
    rw [List.takeWhile_cons, if_neg (by simp; omega)]
    simp [e]
  · rfl
theorem putI_app (l : List Int) (k x : Int) (h : x < k) : putI (l ++ [k]) x = putI l x ++ [k] := by
  have hl := posL_le l x
  unfold putI
  rw [posL_app l k x h]
  by_cases e : posL l x < l.length
  · have hg : (l ++ [k]).getD (posL l x) 0 = l.getD (posL l x) 0 := by simp [List.getD_eq_getElem?_getD, List.getElem?_append_left e]
    rw [hg]
    by_cases e2 : l.getD (posL l x) 0 = x
    · rw [if_pos ⟨by simp; omega, e2⟩, if_pos ⟨e, e2⟩]
    · rw [if_neg (fun h => e2 h.2), if_neg (fun h => e2 h.2), List.take_append_of_le_length hl, List.drop_append_of_le_length hl]
      simp
  · have e' : posL l x = l.length := by omega
    rw [e', if_neg (fun h => by simp [List.getD_eq_getElem?_getD] at h; omega), if_neg (fun h => e (by omega))]
    simp
theorem posL_all : ∀ (l : List Int) (x : Int), (∀ y ∈ l, y < x) → posL l x = l.length
  | [], _, _ => rfl
  | y :: l, x, h => by
    have ih := posL_all l x (fun t ht => h t (List.mem_cons_of_mem _ ht))
    have hy := h y (List.mem_cons_self)
    unfold posL at ih ⊢
    rw [List.takeWhile_cons, if_pos (by simpa using hy), List.length_cons, ih, List.length_cons]
theorem sel_below (p : Int → Bool) : ∀ (n : Nat), ∀ y ∈ sel p n, y < (n : Int)
  | 0, y, h => by simp [sel] at h
  | n + 1, y, h => by
    rw [sel, List.mem_append] at h
    rcases h with h | h
    · have := sel_below p n y h; omega
    · split at h
      · simp at h; omega
      · simp at h
theorem putI_sel (p : Int → Bool) (x : Nat) : ∀ (n : Nat), x < n → putI (sel p n) (x : Int) = sel (fun k => p k || (k == (x : Int))) n
  | n + 1, h => by
    by_cases e : x = n
    · subst e
      have hb := sel_below p x
      have hc : sel (fun k => p k || (k == (x : Int))) x = sel p x := sel_congr fun k hk => by
        have : ((k : Int) == (x : Int)) = false := by simp; omega
        rw [this, Bool.or_false]
      rw [sel_hit (p := fun k => p k || (k == (x : Int))) (by simp), hc]
      cases hp : p x
      · rw [sel_miss hp]
        unfold putI
        rw [posL_all _ _ hb, if_neg (fun h => by omega)]
        simp
      · rw [sel_hit hp]
        have e1 : posL (sel p x ++ [(x : Int)]) x = (sel p x).length := by
          unfold posL
          rw [List.takeWhile_append, if_pos (by have := posL_all _ _ hb; unfold posL at this; exact this), List.takeWhile_cons, if_neg (by simp)]
          simp
        unfold putI
        rw [e1, if_pos ⟨by simp, by simp [List.getD_eq_getElem?_getD]⟩]
    · have ih := putI_sel p x n (by omega)
      have hne : ((n : Int) == (x : Int)) = false := by simp; omega
      rw [sel, sel]
      cases hp : p n
      · simp only [Bool.false_or, hne, Bool.false_eq_true, if_false, List.append_nil]
        exact ih
      · simp only [Bool.true_or, if_true]
        rw [putI_app _ _ _ (by omega), ih]

/-- The block that an offset leads to from block i, or -1. -/
def arcK (x y z : Int) (i : Nat) (ys : List Int) (j : Nat) : Int := atV x y z ((i : Int) % x + ys.getD (j * 3) 0) ((i : Int) / x % y + ys.getD (j * 3 + 1) 0) ((i : Int) / x / y - ys.getD (j * 3 + 2) 0)
/-- Whether one of the first j offsets leads to block k. -/
def hitB (x y z : Int) (i : Nat) (ys : List Int) : Nat → Int → Bool
  | 0, _ => false
  | j + 1, k => hitB x y z i ys j k || (arcK x y z i ys j == k)
/-- The list of the model behind its first j offsets. -/
def arcM (x y z : Int) (i : Nat) (ys : List Int) : Nat → List Int
  | 0 => []
  | j + 1 => if 0 ≤ arcK x y z i ys j then putI (arcM x y z i ys j) (arcK x y z i ys j) else arcM x y z i ys j
theorem at_lt {x y z a b c : Int} (h : inB x y z a b c = true) : 0 ≤ (c * y + b) * x + a ∧ (c * y + b) * x + a < x * y * z := by
  obtain ⟨⟨a1, a2⟩, ⟨b1, b2⟩, c1, c2⟩ := of_decide_eq_true h
  have p1 : 0 ≤ c * y := Int.mul_nonneg c1 (by omega)
  have p2 : c * y ≤ (z - 1) * y := Int.mul_le_mul_of_nonneg_right (by omega) (by omega)
  rw [Int.sub_mul, Int.one_mul] at p2
  have q1 : 0 ≤ (c * y + b) * x := Int.mul_nonneg (by omega) (by omega)
  have q2 : (c * y + b) * x ≤ (z * y - 1) * x := Int.mul_le_mul_of_nonneg_right (by omega) (by omega)
  rw [Int.sub_mul, Int.one_mul] at q2
  rw [show x * y * z = z * y * x by rw [Int.mul_comm x y, Int.mul_comm (y * x) z, ← Int.mul_assoc]]
  exact ⟨by omega, by omega⟩
theorem arcK_lt (x y z : Int) (i : Nat) (ys : List Int) (j : Nat) : arcK x y z i ys j = -1 ∨ (0 ≤ arcK x y z i ys j ∧ arcK x y z i ys j < x * y * z) := by
  unfold arcK atV
  split
  · rename_i h
    exact .inr (at_lt h)
  · exact .inl rfl
theorem arcM_sel (x y z : Int) (i : Nat) (ys : List Int) (N : Nat) (hN : x * y * z = N) : ∀ j, arcM x y z i ys j = sel (hitB x y z i ys j) N
  | 0 => by
    have : ∀ n, sel (hitB x y z i ys 0) n = [] := fun n => by
      induction n with
      | zero => rfl
      | succ n ih => rw [sel_miss (by rfl), ih]
    rw [this]; rfl
  | j + 1 => by
    have ih := arcM_sel x y z i ys N hN j
    rw [arcM]
    rcases arcK_lt x y z i ys j with h | ⟨h0, h1⟩
    · rw [if_neg (by omega), ih]
      refine sel_congr fun k hk => ?_
      rw [hitB, h]
      have : ((-1 : Int) == (k : Int)) = false := beq_eq_false_iff_ne.2 (by omega)
      rw [this, Bool.or_false]
    · obtain ⟨m, hm⟩ := Int.eq_ofNat_of_zero_le h0
      rw [if_pos h0, ih, hm, putI_sel _ m N (by omega)]
      refine sel_congr fun k hk => ?_
      rw [hitB, hm]
      congr 1
      rw [Bool.eq_iff_iff]
      constructor <;> (intro h; simp at h ⊢; omega)
theorem arcM_len (x y z : Int) (i : Nat) (ys : List Int) : ∀ j, (arcM x y z i ys j).length ≤ j
  | 0 => Nat.le_refl _
  | j + 1 => by
    have := arcM_len x y z i ys j
    rw [arcM]
    split
    · have h := posL_le (arcM x y z i ys j) (arcK x y z i ys j)
      unfold putI
      split
      · omega
      · simp; omega
    · omega

/-- The place of the sector of block i. -/
def secN (x y : Int) (i : Nat) : Nat := ((i : Int) % (x * y)).toNat
/-- The template of the sector of block i. -/
def tmpL (x y : Int) (ss : List Int) (tss : List (List Int)) (i : Nat) : List Int := tss.getD (ss.getD (secN x y i) 0).toNat []
def arcRow (x y z : Int) (ss : List Int) (tss : List (List Int)) (i : Nat) : List Int := arcM x y z i (tmpL x y ss tss i) ((tmpL x y ss tss i).length / 3)
def arcN (x y z : Int) (ss : List Int) (tss : List (List Int)) (n : Nat) : List (List Int) := (List.range n).map (arcRow x y z ss tss)
theorem arcN_len (x y z : Int) (ss : List Int) (tss : List (List Int)) (n : Nat) : (arcN x y z ss tss n).length = n := by simp [arcN]
theorem arcN_succ (x y z : Int) (ss : List Int) (tss : List (List Int)) (n : Nat) : arcN x y z ss tss (n + 1) = arcN x y z ss tss n ++ [arcRow x y z ss tss n] := by simp [arcN, List.range_succ]
theorem arcN_at (x y z : Int) (ss : List Int) (tss : List (List Int)) {n i : Nat} (h : i < n) : (arcN x y z ss tss n).getD i [] = arcRow x y z ss tss i := by simp [arcN, List.getD_eq_getElem?_getD, h]
def blkN (x y z : Int) : Nat := (x * y * z).toNat
/-- The arcs of slopes. -/
def arcL (x y z : Int) (ss : List Int) (tss : List (List Int)) : List (List Int) := if sloV x y z ss tss = true then arcN x y z ss tss (blkN x y z) else []
theorem arc_no {x y z : Int} {ss : List Int} {tss : List (List Int)} (h : sloV x y z ss tss = false) : arcL x y z ss tss = [] := by unfold arcL; rw [h]; rfl
theorem arc_yes {x y z : Int} {ss : List Int} {tss : List (List Int)} (h : sloV x y z ss tss = true) : arcL x y z ss tss = arcN x y z ss tss (blkN x y z) := by unfold arcL; rw [h]; rfl
structure Good (x y z : Int) (ss : List Int) (tss : List (List Int)) : Prop where
  g : goodB x y z = true
  n : x * y * z = blkN x y z
  n1 : 1 ≤ blkN x y z
  n2 : blkN x y z ≤ 120
  l : (ss.length : Int) = x * y
  s : ∀ k : Nat, k < ss.length → 0 ≤ ss.getD k 0 ∧ ss.getD k 0 ≤ (tss.length : Int) - 1
  t1 : 1 ≤ tss.length
  t2 : tss.length ≤ 4
  t : ∀ k : Nat, k < tss.length → temB ((tss.getD k []).length / 3) (tss.getD k []) = true
theorem slo_good {x y z : Int} {ss : List Int} {tss : List (List Int)} (h : sloV x y z ss tss = true) : Good x y z ss tss := by
  unfold sloV sloB tmsB areB at h
  simp only [Bool.and_eq_true, decide_eq_true_eq] at h
  obtain ⟨hg, ⟨⟨t1, t2⟩, ht⟩, hl, hs⟩ := h
  obtain ⟨x1, x2, y1, y2, z1, z2, p1, p2, q1, q2⟩ := good_box hg
  have hpos : 1 ≤ x * y * z := by
    have a : 1 * 1 ≤ x * y := Int.mul_le_mul x1 y1 (by omega) (by omega)
    have b : 1 * 1 ≤ x * y * z := Int.mul_le_mul (by omega) z1 (by omega) (by omega)
    omega
  refine ⟨hg, ?_, ?_, ?_, hl, fun k hk => all_at hs hk, t1, t2, fun k hk => temsAll_at ht hk⟩
  all_goals unfold blkN; omega
theorem sec_lt {x y z : Int} {ss : List Int} {tss : List (List Int)} (h : Good x y z ss tss) (i : Nat) : ((i : Int) % (x * y) = (secN x y i : Int)) ∧ secN x y i < ss.length := by
  obtain ⟨x1, x2, y1, y2, z1, z2, p1, p2, q1, q2⟩ := good_box h.g
  have hp : 1 ≤ x * y := by have a : 1 * 1 ≤ x * y := Int.mul_le_mul x1 y1 (by omega) (by omega); omega
  have e1 := Int.emod_nonneg (i : Int) (show x * y ≠ 0 by omega)
  have e2 := Int.emod_lt_of_pos (i : Int) (show 0 < x * y by omega)
  have := h.l
  unfold secN
  omega
theorem sec_at {x y : Int} (hx : 1 ≤ x) (hy : 1 ≤ y) (i : Nat) : (i : Int) / x % y * x + (i : Int) % x = (i : Int) % (x * y) := by
  have e1 := Int.emod_add_mul_ediv (i : Int) x
  have e2 := Int.emod_add_mul_ediv ((i : Int) / x) y
  have m1 := Int.emod_nonneg (i : Int) (show x ≠ 0 by omega)
  have m2 := Int.emod_lt_of_pos (i : Int) (show 0 < x by omega)
  have k1 := Int.emod_nonneg ((i : Int) / x) (show y ≠ 0 by omega)
  have k2 := Int.emod_lt_of_pos ((i : Int) / x) (show 0 < y by omega)
  generalize (i : Int) % x = r at *
  generalize (i : Int) / x % y = s at *
  generalize (i : Int) / x / y = t at *
  have hr : 0 ≤ s * x + r := by have := Int.mul_nonneg k1 (show 0 ≤ x by omega); omega
  have hlt : s * x + r < x * y := by
    have : s * x ≤ (y - 1) * x := Int.mul_le_mul_of_nonneg_right (by omega) (by omega)
    rw [Int.sub_mul, Int.one_mul, Int.mul_comm y x] at this
    omega
  rw [← e1, ← e2, Int.mul_add, ← Int.mul_assoc, show r + (x * s + x * y * t) = (s * x + r) + x * y * t by rw [Int.mul_comm x s]; omega, Int.add_mul_emod_self_left, Int.emod_eq_of_lt hr hlt]
theorem tmp_good {x y z : Int} {ss : List Int} {tss : List (List Int)} (h : Good x y z ss tss) (i : Nat) : ∃ k : Nat, ss.getD (secN x y i) 0 = (k : Int) ∧ k < tss.length ∧ tmpL x y ss tss i = tss.getD k [] ∧ temB ((tss.getD k []).length / 3) (tss.getD k []) = true := by
  obtain ⟨e, hlt⟩ := sec_lt h i
  obtain ⟨s1, s2⟩ := h.s _ hlt
  obtain ⟨k, hk⟩ := Int.eq_ofNat_of_zero_le s1
  have hkl : k < tss.length := by omega
  exact ⟨k, hk, hkl, by unfold tmpL; rw [hk]; simp, h.t k hkl⟩
theorem arcRow_len {x y z : Int} {ss : List Int} {tss : List (List Int)} (h : Good x y z ss tss) (i : Nat) : (arcRow x y z ss tss i).length ≤ 12 := by
  obtain ⟨k, _, _, e, ht⟩ := tmp_good h i
  obtain ⟨a, b, _⟩ := tem_true ht
  have := arcM_len x y z i (tmpL x y ss tss i) ((tmpL x y ss tss i).length / 3)
  unfold arcRow
  rw [e] at this ⊢
  omega
theorem arcRow_sel {x y z : Int} {ss : List Int} {tss : List (List Int)} (h : Good x y z ss tss) (i : Nat) : arcRow x y z ss tss i = sel (hitB x y z i (tmpL x y ss tss i) ((tmpL x y ss tss i).length / 3)) (blkN x y z) := arcM_sel _ _ _ _ _ _ h.n _
theorem tot_le12 {xss : List (List Int)} : ∀ {n : Nat}, (∀ i, i < n → (xss.getD i []).length ≤ 12) → totN xss n ≤ 12 * n
  | 0, _ => Nat.le_refl _
  | n + 1, h => by
    have := tot_le12 (n := n) (fun i hi => h i (by omega))
    have h2 := h n (by omega)
    rw [show totN xss (n + 1) = totN xss n + (xss.getD n []).length from rfl]
    omega
theorem arc_rows {x y z : Int} {ss : List Int} {tss : List (List Int)} (h : Good x y z ss tss) (i : Nat) (hi : i < blkN x y z) : ((arcN x y z ss tss (blkN x y z)).getD i []).length ≤ 12 := by rw [arcN_at _ _ _ _ _ hi]; exact arcRow_len h i
theorem arc_facts (x y z : Int) (ss : List Int) (tss : List (List Int)) : (arcL x y z ss tss).length ≤ 1000000 ∧ Short (arcL x y z ss tss) ∧ totN (arcL x y z ss tss) (arcL x y z ss tss).length ≤ 1048576 := by
  cases h : sloV x y z ss tss
  · rw [arc_no h]
    exact ⟨by simp, fun i hi => by simp at hi, by simp [totN]⟩
  · have hg := slo_good h
    have n2 := hg.n2
    rw [arc_yes h, arcN_len]
    refine ⟨by omega, fun i hi => ?_, ?_⟩
    · rw [arcN_len] at hi
      have := arc_rows hg i hi
      omega
    · have := tot_le12 (fun i hi => arc_rows hg i hi)
      omega
def arcC (x y z : Int) (ss : List Int) (tss : List (List Int)) : Int := totN (arcL x y z ss tss) (arcL x y z ss tss).length
/-- The blocks whose lists are empty. -/
def topP (xss : List (List Int)) (k : Int) : Bool := decide ((xss.getD k.toNat []).length = 0)
def topL (x y z : Int) (ss : List Int) (tss : List (List Int)) : List Int := sel (topP (arcL x y z ss tss)) (arcL x y z ss tss).length
theorem topL_len (x y z : Int) (ss : List Int) (tss : List (List Int)) : (topL x y z ss tss).length ≤ 4000000 := by
  have := sel_len (topP (arcL x y z ss tss)) (arcL x y z ss tss).length
  have := (arc_facts x y z ss tss).1
  unfold topL
  omega
end Go.Proofs.Ythdbcncdihcggaa
