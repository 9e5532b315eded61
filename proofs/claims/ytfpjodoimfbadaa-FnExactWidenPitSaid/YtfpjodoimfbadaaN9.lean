/-
  The answers on closures: plain facts.
-/
import Derived.Test.YtfpjodoimfbadaaN3
namespace Go.Proofs.Ytfpjodoimfbadaa
set_option linter.unusedVariables false

theorem ris_lt {n : Int} {l : List Int} (h : risB n l = true) {i j : Nat} (hij : i < j) (hj : j < l.length) : l.getD i 0 < l.getD j 0 := by
  have h1 := List.pairwise_iff_getElem.1 (ris_rising h) i j (by omega) hj hij
  simpa [show i < l.length by omega, hj] using h1
theorem all_no {l : List Int} {r : Int → Bool} {k : Nat} (hk : k < l.length) (h : r (l.getD k 0) = false) : l.all r = false := List.all_eq_false.2 ⟨_, getD_memN hk, by rw [h]; simp⟩
theorem all_yes {l : List Int} {r : Int → Bool} (h : ∀ q, q < l.length → r (l.getD q 0) = true) : l.all r = true := by
  rw [List.all_eq_true]
  intro x hx
  obtain ⟨k, hk, rfl⟩ := mem_getD hx
  exact h k hk

/-- Valid arcs and a valid list; a closure of valid arcs. -/
def vB (xss : List (List Int)) (l : List Int) : Bool := arcB xss && risB xss.length l
def gB (xss : List (List Int)) (l : List Int) : Bool := vB xss l && closB xss l
theorem vB_iff {xss : List (List Int)} {l : List Int} : vB xss l = true ↔ arcB xss = true ∧ risB xss.length l = true := by simp [vB]
theorem gB_iff {xss : List (List Int)} {l : List Int} : gB xss l = true ↔ (arcB xss = true ∧ risB xss.length l = true) ∧ closB xss l = true := by simp [gB, vB]

/-! ### greatest closures inside -/
def insK (xss : List (List Int)) (l : List Int) (N k : Nat) : Int → Bool := insS xss (inL l) (if k < l.length then (l.getD k 0).toNat else N)
theorem ris_gap {N : Nat} {l : List Int} (h : risB N l = true) {k j : Nat} (hlo : ∀ q, q < k → q < l.length → l.getD q 0 < (j : Int)) (hhi : k < l.length → (j : Int) < l.getD k 0) : inL l (j : Int) = false := by
  rw [Bool.eq_false_iff]
  intro hc
  obtain ⟨q, hq, e⟩ := mem_getD (inL_iff.1 hc)
  by_cases hqk : q < k
  · have := hlo q hqk hq; omega
  · have h1 := hhi (by omega)
    by_cases e2 : q = k
    · rw [e2] at e; omega
    · have := ris_lt h (i := k) (j := q) (by omega) hq; omega
theorem insK_zero {xss : List (List Int)} {N : Nat} {l : List Int} (h : risB N l = true) : insK xss l N 0 = inL l := by
  unfold insK
  refine (insS_skips (k := 0) (Nat.zero_le _) fun j _ hj => ris_gap h (k := 0) (fun q hq => by omega) fun hk => ?_).trans rfl
  rw [if_pos hk] at hj
  have := ris_box h hk
  omega
theorem insK_end (xss : List (List Int)) (N : Nat) (l : List Int) : insK xss l N l.length = insS xss (inL l) N := by
  unfold insK
  rw [if_neg (by omega)]
theorem insK_step {xss : List (List Int)} {N : Nat} {l : List Int} (h : risB N l = true) {k i : Nat} (hk : k < l.length) (hi : l.getD k 0 = (i : Int)) :
    insK xss l N (k + 1) = if (xss.getD i []).all (insK xss l N k) = true then insK xss l N k else fun y => !(y == (i : Int)) && insK xss l N k y := by
  have e1 : insK xss l N k = insS xss (inL l) i := by unfold insK; rw [if_pos hk, hi]; rfl
  have e2 : insK xss l N (k + 1) = insS xss (inL l) (i + 1) := by
    unfold insK
    refine insS_skips ?_ fun j hj1 hj2 => ris_gap h (k := k + 1) (fun q hq hql => ?_) fun hk2 => ?_
    · split
      · rename_i h2
        have := ris_lt h (i := k) (j := k + 1) (by omega) h2
        omega
      · have := (ris_box h hk).2; omega
    · by_cases e : q = k
      · rw [e, hi]; omega
      · have := ris_lt h (i := q) (j := k) (by omega) hk; omega
    · rw [if_pos hk2] at hj2
      have := ris_box h hk2
      omega
  rw [e1, e2]
  exact insS_hit (by rw [inL_iff, ← hi]; exact getD_memN hk)

/-! ### meets -/
def meP (a b : List Int) (k : Nat) : Int → Bool := fun y => inL a y && (inL b y || !(a.take k).contains y)
theorem meP_zero (a b : List Int) : meP a b 0 = inL a := by funext y; simp [meP]
theorem meP_end (a b : List Int) : meP a b a.length = fun y => inL a y && inL b y := by
  funext y
  unfold meP
  rw [List.take_length]
  unfold inL
  cases a.contains y <;> simp
theorem meP_keep {a b : List Int} {k : Nat} (hk : k < a.length) (h : inL b (a.getD k 0) = true) : meP a b (k + 1) = meP a b k := by
  funext y
  unfold meP
  rw [List.take_succ_eq_append_getElem hk]
  have e : a.getD k 0 = a[k] := by simp [hk]
  rw [e] at h
  simp only [List.contains_eq_mem, List.mem_append, List.mem_singleton, Bool.decide_or]
  by_cases hy : y = a[k]
  · subst hy; simp [h]
  · simp [hy]
theorem meP_drop {a b : List Int} {k : Nat} (hk : k < a.length) (h : inL b (a.getD k 0) = false) : meP a b (k + 1) = fun y => !(y == a.getD k 0) && meP a b k y := by
  funext y
  unfold meP
  rw [List.take_succ_eq_append_getElem hk]
  have e : a.getD k 0 = a[k] := by simp [hk]
  rw [e] at h ⊢
  simp only [List.contains_eq_mem, List.mem_append, List.mem_singleton, Bool.decide_or]
  by_cases hy : y = a[k]
  · subst hy; simp [h]
  · have : (y == a[k]) = false := beq_eq_false_iff_ne.2 hy
    simp [hy, this]

/-! ### the answers -/
def leA (xss : List (List Int)) (l : List Int) : List Int := if vB xss l = true then clL xss l else []
def beA (xss : List (List Int)) (i : Int) : List Int := if vB xss [i] = true then sel (upS xss (inL [i]) xss.length) xss.length else []
def inA (xss : List (List Int)) (l : List Int) : List Int := if vB xss l = true then sel (insS xss (inL l) xss.length) xss.length else []
def joA (xss : List (List Int)) (a b : List Int) : List Int := if (gB xss a && gB xss b) = true then sel (addL b (inL a)) xss.length else []
def metA (xss : List (List Int)) (a b : List Int) : List Int := if (gB xss a && gB xss b) = true then sel (fun y => inL a y && inL b y) xss.length else []
def nxA (xss : List (List Int)) (l : List Int) : List Int := if gB xss l = true then sel (nxP xss l) xss.length else []
def laA (xss : List (List Int)) (l : List Int) : List Int := if gB xss l = true then unL xss l else []
theorem sel_short {xss : List (List Int)} (h : arcB xss = true) (p : Int → Bool) : (sel p xss.length).length ≤ 4000000 := by
  have := sel_len p xss.length
  have := arc_len h
  omega
theorem leA_len (xss : List (List Int)) (l : List Int) : (leA xss l).length ≤ 4000000 := by
  unfold leA; split
  · rename_i h; exact sel_short (vB_iff.1 h).1 _
  · simp
theorem beA_len (xss : List (List Int)) (i : Int) : (beA xss i).length ≤ 4000000 := by
  unfold beA; split
  · rename_i h; exact sel_short (vB_iff.1 h).1 _
  · simp
theorem inA_len (xss : List (List Int)) (l : List Int) : (inA xss l).length ≤ 4000000 := by
  unfold inA; split
  · rename_i h; exact sel_short (vB_iff.1 h).1 _
  · simp
theorem joA_len (xss : List (List Int)) (a b : List Int) : (joA xss a b).length ≤ 4000000 := by
  unfold joA; split
  · rename_i h; rw [Bool.and_eq_true] at h; exact sel_short (gB_iff.1 h.1).1.1 _
  · simp
theorem meA_len (xss : List (List Int)) (a b : List Int) : (metA xss a b).length ≤ 4000000 := by
  unfold metA; split
  · rename_i h; rw [Bool.and_eq_true] at h; exact sel_short (gB_iff.1 h.1).1.1 _
  · simp
theorem nxA_len (xss : List (List Int)) (l : List Int) : (nxA xss l).length ≤ 4000000 := by
  unfold nxA; split
  · rename_i h; exact sel_short (gB_iff.1 h).1.1 _
  · simp
theorem laA_len (xss : List (List Int)) (l : List Int) : (laA xss l).length ≤ 4000000 := by
  unfold laA; split
  · rename_i h; exact sel_short (gB_iff.1 h).1.1 _
  · simp
end Go.Proofs.Ytfpjodoimfbadaa
