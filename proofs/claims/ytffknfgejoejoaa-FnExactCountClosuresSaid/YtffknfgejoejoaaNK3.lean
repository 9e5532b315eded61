/-
  Closures counted: sets of bits, cones as bits: plain facts.
-/
import Derived.Test.YtffknfgejoejoaaNK1
namespace Go.Proofs.Ytffknfgejoejoaa
set_option linter.unusedVariables false

/-- The bits of the first t of a list. -/
def bitsT (l : List Int) : Nat → Nat
  | 0 => 0
  | t + 1 => bitsT l t ||| 2 ^ (l.getD t 0).toNat
theorem bitsT_bit (l : List Int) (k : Nat) : ∀ t, (bitsT l t).testBit k = true ↔ ∃ q, q < t ∧ (l.getD q 0).toNat = k
  | 0 => by simp [bitsT]
  | t + 1 => by
    unfold bitsT
    rw [Nat.testBit_or, Bool.or_eq_true, bitsT_bit l k t, Nat.testBit_two_pow, decide_eq_true_eq]
    constructor
    · rintro (⟨q, h1, h2⟩ | h)
      · exact ⟨q, by omega, h2⟩
      · exact ⟨t, by omega, h⟩
    · rintro ⟨q, h1, h2⟩
      by_cases e : q = t
      · subst e; exact .inr h2
      · exact .inl ⟨q, by omega, h2⟩
theorem bitsT_lt {N : Nat} {l : List Int} (h : InN N l) : ∀ t, t ≤ l.length → bitsT l t < 2 ^ N
  | 0, _ => Nat.two_pow_pos N
  | t + 1, ht => by
    unfold bitsT
    refine Nat.or_lt_two_pow (bitsT_lt h t (by omega)) (Nat.pow_lt_pow_right (by omega) ?_)
    have := h _ (getD_memN (k := t) (by omega))
    omega
def bitsL (l : List Int) : Nat := bitsT l l.length
theorem bitsL_bit {N : Nat} {l : List Int} (h : InN N l) (k : Nat) : (bitsL l).testBit k = true ↔ (k : Int) ∈ l := by
  unfold bitsL
  rw [bitsT_bit]
  constructor
  · rintro ⟨q, h1, h2⟩
    have h3 := getD_memN h1
    have := h _ h3
    rw [← h2, Int.toNat_of_nonneg this.1]
    exact h3
  · intro hk
    obtain ⟨q, hq, e⟩ := mem_getD hk
    exact ⟨q, hq, by rw [e]; simp⟩
theorem sub_iff {s u : Nat} : s &&& u = u ↔ ∀ k, u.testBit k = true → s.testBit k = true := by
  constructor
  · intro h k hk
    rw [← h, Nat.testBit_and, Bool.and_eq_true] at hk
    exact hk.1
  · intro h
    refine Nat.eq_of_testBit_eq fun k => ?_
    rw [Nat.testBit_and]
    cases hk : u.testBit k
    · simp
    · rw [h k hk]; rfl
/-- A cone, and what is right above, as bits. -/
def coN (xss : List (List Int)) (i : Nat) : Nat := bitsL (clL xss [(i : Int)])
def upN (xss : List (List Int)) (i : Nat) : Nat := bitsL (xss.getD i [])
/-- Whether a set of bits is a closure. -/
def closN (xss : List (List Int)) (N s : Nat) : Bool := (List.range N).all fun i => !(s.testBit i) || decide (s &&& upN xss i = upN xss i)
theorem closN_iff {xss : List (List Int)} {N s : Nat} : closN xss N s = true ↔ ∀ i, i < N → s.testBit i = true → s &&& upN xss i = upN xss i := by
  unfold closN
  rw [List.all_eq_true]
  constructor
  · intro h i hi hs
    have := h i (List.mem_range.2 hi)
    rw [hs] at this
    simpa using this
  · intro h i hi
    cases hs : s.testBit i
    · rfl
    · simpa using h i (List.mem_range.1 hi) hs
def cloB (xss : List (List Int)) : Bool := arcB xss && decide (xss.length ≤ 20)
def cloN (xss : List (List Int)) : Nat := if cloB xss = true then cw (coN xss) xss.length (2 ^ xss.length - 1) else 0
def cloV (xss : List (List Int)) : Int := (cloN xss : Int)
theorem cloB_iff {xss : List (List Int)} : cloB xss = true ↔ arcB xss = true ∧ xss.length ≤ 20 := by simp [cloB]
theorem coN_bit {xss : List (List Int)} (ha : arcB xss = true) {i : Nat} (hi : i < xss.length) (k : Nat) : (coN xss i).testBit k = true ↔ Rch xss (inL [(i : Int)]) k := by
  unfold coN
  rw [bitsL_bit (N := xss.length) (l := clL xss [(i : Int)]) (sel_in _ _), mem_clL ha (fun x hx => by simp at hx; omega)]
theorem coN_own {xss : List (List Int)} (ha : arcB xss = true) {i : Nat} (hi : i < xss.length) : (coN xss i).testBit i = true := (coN_bit ha hi i).2 (Rch.base (inL_iff.2 (by simp)))
theorem coN_lt (xss : List (List Int)) (i : Nat) : coN xss i < 2 ^ xss.length := bitsT_lt (sel_in _ _) _ (Nat.le_refl _)
theorem cnt_same {xss : List (List Int)} (h : cloB xss = true) : cntP (closN xss xss.length) (2 ^ xss.length) = cloN xss := by
  obtain ⟨ha, hl⟩ := cloB_iff.1 h
  unfold cloN
  rw [if_pos h]
  have hup : ∀ i, i < xss.length → ∀ k, (upN xss i).testBit k = true ↔ (k : Int) ∈ xss.getD i [] := fun i hi k => bitsL_bit (arc_in ha hi) k
  have key := cw_counts (C := coN xss) (N := xss.length) (closN xss xss.length) (fun s => by
    rw [closN_iff]
    constructor
    · intro hs i hi his k hk
      have := (coN_bit ha hi k).1 hk (fun y => ∃ m : Nat, y = (m : Int) ∧ s.testBit m = true) (fun y hy => by
        have := inL_iff.1 hy
        simp at this
        exact ⟨i, this, his⟩) fun c y hc hS hy => by
        obtain ⟨m, e, hm⟩ := hS
        obtain rfl : m = c := by omega
        have hy0 := (arc_in ha hc y hy).1
        refine ⟨y.toNat, by omega, sub_iff.1 (hs _ hc hm) _ ((hup _ hc _).2 ?_)⟩
        rw [Int.toNat_of_nonneg hy0]; exact hy
      obtain ⟨m, e, hm⟩ := this
      obtain rfl : m = k := by omega
      exact hm
    · intro hs i hi his
      rw [sub_iff]
      intro k hk
      refine hs i hi his k ((coN_bit ha hi k).2 ?_)
      exact (Rch.base (inL_iff.2 (by simp)) : Rch xss (inL [(i : Int)]) (i : Int)).step hi ((hup i hi k).1 hk)) (fun i hi => coN_own ha hi)
    (fun i k hi hk => by
      have := ((coN_bit ha hi k).1 hk).le ha
      omega)
    (fun i k m hi hk hm => by
      have h1 := (coN_bit ha hi k).1 hk
      have hkN : k < xss.length := by have := h1.le ha; omega
      rw [coN_bit ha hi]
      exact (coN_bit ha hkN m).1 hm (fun y => Rch xss (inL [(i : Int)]) y) (fun y hy => by
        have := inL_iff.1 hy
        simp at this
        subst this
        exact h1) fun c y hc hS hy => hS.step hc hy)
    xss.length 0 (2 ^ xss.length - 1) (Nat.le_refl _) (fun k hk => by simp at hk) (fun i k hi => by simp at hi) fun k => by
      rw [Nat.testBit_two_pow_sub_one, decide_eq_true_eq]
      exact ⟨fun h => ⟨h, fun i hi => by simp at hi⟩, fun h => h.1⟩
  simpa using key
end Go.Proofs.Ytffknfgejoejoaa
