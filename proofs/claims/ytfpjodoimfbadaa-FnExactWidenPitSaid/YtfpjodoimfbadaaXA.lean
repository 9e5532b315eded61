/-
  Pits, phases, joined phases and filled pits: plain facts.
-/
import Derived.Test.YtfpjodoimfbadaaN9
import Derived.Test.YtfpjodoimfbadaaNJ0
import Derived.Test.YtfpjodoimfbadaaS3
namespace Go.Proofs.Ytfpjodoimfbadaa
set_option linter.unusedVariables false

/-! ### chosen numbers -/
theorem sel_mono {p q : Int → Bool} : ∀ {n : Nat}, (∀ k : Nat, k < n → p k = true → q k = true) → (sel p n).length ≤ (sel q n).length
  | 0, _ => Nat.le_refl _
  | n + 1, h => by
    have ih := sel_mono (p := p) (q := q) (n := n) fun k hk => h k (by omega)
    cases hp : p (n : Int)
    · rw [sel_miss hp]
      cases hq : q (n : Int)
      · rw [sel_miss hq]; exact ih
      · rw [sel_hit hq, List.length_append]; omega
    · rw [sel_hit hp, sel_hit (h n (by omega) hp), List.length_append, List.length_append]
      simpa using ih
theorem sel_tight {p q : Int → Bool} : ∀ {n : Nat}, (∀ k : Nat, k < n → p k = true → q k = true) → (sel q n).length ≤ (sel p n).length → ∀ k : Nat, k < n → q k = p k
  | 0, _, _ => fun k hk => by omega
  | n + 1, h, hl => by
    have h' : ∀ k : Nat, k < n → p k = true → q k = true := fun k hk => h k (by omega)
    have ih := sel_mono h'
    cases hp : p (n : Int)
    · rw [sel_miss hp] at hl
      cases hq : q (n : Int)
      · rw [sel_miss hq] at hl
        have t := sel_tight h' hl
        intro k hk
        by_cases e : k = n
        · subst e; rw [hp, hq]
        · exact t k (by omega)
      · rw [sel_hit hq, List.length_append] at hl
        simp at hl
        omega
    · have hq := h n (by omega) hp
      rw [sel_hit hp, sel_hit hq, List.length_append, List.length_append] at hl
      have t := sel_tight h' (by simpa using hl)
      intro k hk
      by_cases e : k = n
      · subst e; rw [hp, hq]
      · exact t k (by omega)
theorem sub_len {N : Nat} {a b : List Int} (ha : risB N a = true) (hb : risB N b = true) (h : a.all (inL b) = true) : a.length ≤ b.length := by
  rw [← sel_inL ha, ← sel_inL hb]
  refine sel_mono fun k _ hk => ?_
  rw [List.all_eq_true] at h
  exact h _ (inL_iff.1 hk)
theorem sub_eq {N : Nat} {a b : List Int} (ha : risB N a = true) (hb : risB N b = true) (h : a.all (inL b) = true) (hl : b.length ≤ a.length) : a = b := by
  rw [← sel_inL ha, ← sel_inL hb] at hl
  rw [← sel_inL ha, ← sel_inL hb]
  refine sel_congr fun k hk => (sel_tight (fun k _ hk => ?_) hl k hk).symm
  rw [List.all_eq_true] at h
  exact h _ (inL_iff.1 hk)
/-- What of a is not in b. -/
def lessL (a b : List Int) : List Int := a.filter fun x => !inL b x
def lessP (a b : List Int) : Int → Bool := fun x => inL a x && !inL b x
theorem less_sel {N : Nat} {a : List Int} (b : List Int) (ha : risB N a = true) : lessL a b = sel (lessP a b) N := by
  refine rising_ext ?_ (sel_rising _ _) fun x => ?_
  · exact (ris_rising ha).sublist List.filter_sublist
  · unfold lessL
    rw [List.mem_filter, mem_sel]
    unfold inr lessP
    rw [Bool.and_eq_true, decide_eq_true_eq, Bool.and_eq_true, inL_iff]
    exact ⟨fun h => ⟨ris_mem ha h.1, h⟩, fun h => h.2⟩
theorem less_len (a b : List Int) : (lessL a b).length ≤ a.length := List.length_filter_le _ _
theorem less_ris {N : Nat} {a : List Int} (b : List Int) (ha : risB N a = true) : risB N (lessL a b) = true := by
  rw [less_sel b ha]
  exact sel_risB _ rfl
theorem less_nil (a : List Int) : lessL a [] = a := by
  unfold lessL
  rw [List.filter_eq_self]
  intro x _
  simp [inL]

/-! ### pits -/
def befL (pss : List (List Int)) : Nat → List Int
  | 0 => []
  | k + 1 => pss.getD k []
def pitC (xss pss : List (List Int)) (k : Nat) : Bool := gB xss (pss.getD k []) && ((befL pss k).all (inL (pss.getD k [])) && decide ((befL pss k).length < (pss.getD k []).length))
def pitsB (xss pss : List (List Int)) : Bool := decide (1 ≤ pss.length ∧ pss.length ≤ 8) && (List.range pss.length).all (pitC xss pss)
def PitTo (xss pss : List (List Int)) (k : Nat) : Prop := ∀ i : Nat, i < k → pitC xss pss i = true
theorem PitTo.zero (xss pss : List (List Int)) : PitTo xss pss 0 := fun i hi => by omega
theorem PitTo.succ {xss pss : List (List Int)} {k : Nat} (h : PitTo xss pss k) (hk : pitC xss pss k = true) : PitTo xss pss (k + 1) := fun i hi => by
  by_cases e : i = k
  · rw [e]; exact hk
  · exact h i (by omega)
theorem pits_true {xss pss : List (List Int)} (hl : 1 ≤ pss.length ∧ pss.length ≤ 8) (h : PitTo xss pss pss.length) : pitsB xss pss = true := by
  unfold pitsB
  rw [decide_eq_true hl, Bool.true_and, List.all_eq_true]
  exact fun i hi => h i (List.mem_range.1 hi)
theorem pits_false {xss pss : List (List Int)} {k : Nat} (hk : k < pss.length) (h : pitC xss pss k = false) : pitsB xss pss = false := by
  unfold pitsB
  rw [Bool.and_eq_false_iff]
  refine .inr ?_
  rw [List.all_eq_false]
  exact ⟨k, List.mem_range.2 hk, by rw [h]; simp⟩
theorem pits_short {xss pss : List (List Int)} (h : ¬ (1 ≤ pss.length ∧ pss.length ≤ 8)) : pitsB xss pss = false := by
  unfold pitsB
  rw [decide_eq_false h, Bool.false_and]
theorem pits_len {xss pss : List (List Int)} (h : pitsB xss pss = true) : 1 ≤ pss.length ∧ pss.length ≤ 8 := by
  unfold pitsB at h
  simp only [Bool.and_eq_true, decide_eq_true_eq] at h
  exact h.1
theorem pits_at {xss pss : List (List Int)} (h : pitsB xss pss = true) : PitTo xss pss pss.length := fun i hi => by
  unfold pitsB at h
  rw [Bool.and_eq_true, List.all_eq_true] at h
  exact h.2 i (List.mem_range.2 hi)
theorem pitC_iff {xss pss : List (List Int)} {k : Nat} : pitC xss pss k = true ↔ gB xss (pss.getD k []) = true ∧ (befL pss k).all (inL (pss.getD k [])) = true ∧ (befL pss k).length < (pss.getD k []).length := by
  simp [pitC]
theorem pitC_g {xss pss : List (List Int)} {k : Nat} (h : gB xss (pss.getD k []) = false) : pitC xss pss k = false := by unfold pitC; rw [h]; rfl
theorem pitC_a {xss pss : List (List Int)} {k : Nat} (h : (befL pss k).all (inL (pss.getD k [])) = false) : pitC xss pss k = false := by simp only [pitC, h]; simp
theorem pitC_l {xss pss : List (List Int)} {k : Nat} (h : ¬ (befL pss k).length < (pss.getD k []).length) : pitC xss pss k = false := by simp only [pitC, decide_eq_false h]; simp
theorem pits_arc {xss pss : List (List Int)} (h : pitsB xss pss = true) : arcB xss = true :=
  (gB_iff.1 (pitC_iff.1 (pits_at h 0 (by have := pits_len h; omega))).1).1.1
theorem pit_g {xss pss : List (List Int)} {m k : Nat} (h : PitTo xss pss m) (hk : k < m) : gB xss (pss.getD k []) = true := (pitC_iff.1 (h k hk)).1
theorem pit_ris {xss pss : List (List Int)} {m k : Nat} (h : PitTo xss pss m) (hk : k < m) : risB xss.length (pss.getD k []) = true := (gB_iff.1 (pit_g h hk)).1.2
theorem bef_ris {xss pss : List (List Int)} {m k : Nat} (h : PitTo xss pss m) (hk : k ≤ m) : risB xss.length (befL pss k) = true := by
  cases k with
  | zero => rfl
  | succ k => exact pit_ris h (by omega)
/-- The program's test of a length. -/
theorem pit_ne {xss pss : List (List Int)} {k : Nat} (h : PitTo xss pss k) (hg : gB xss (pss.getD k []) = true) (ha : (befL pss k).all (inL (pss.getD k [])) = true) (hne : (pss.getD k []).length ≠ (befL pss k).length) : pitC xss pss k = true := by
  have := sub_len (bef_ris h (Nat.le_refl _)) (gB_iff.1 hg).1.2 ha
  exact pitC_iff.2 ⟨hg, ha, by omega⟩
theorem pit_sub {xss pss : List (List Int)} {m : Nat} (h : PitTo xss pss m) : ∀ {i j : Nat}, i ≤ j → j < m → ∀ x, x ∈ pss.getD i [] → x ∈ pss.getD j []
  | i, 0, hij, hj, x, hx => by obtain rfl : i = 0 := by omega
                               exact hx
  | i, j + 1, hij, hj, x, hx => by
    by_cases e : i = j + 1
    · rw [← e]; exact hx
    · have h1 := pit_sub h (i := i) (j := j) (by omega) (by omega) x hx
      have h2 := (pitC_iff.1 (h (j + 1) hj)).2.1
      rw [List.all_eq_true] at h2
      exact inL_iff.1 (h2 x h1)

/-! ### phases -/
def phL (pss : List (List Int)) (k : Nat) : List Int := lessL (pss.getD k []) (befL pss k)
def phsL (pss : List (List Int)) (k : Nat) : List (List Int) := (List.range k).map (phL pss)
theorem phs_len (pss : List (List Int)) (k : Nat) : (phsL pss k).length = k := by simp [phsL]
theorem phs_succ (pss : List (List Int)) (k : Nat) : phsL pss (k + 1) = phsL pss k ++ [phL pss k] := by simp [phsL, List.range_succ]
theorem phs_at {pss : List (List Int)} {n k : Nat} (h : k < n) : (phsL pss n).getD k [] = phL pss k := by simp [phsL, h]
theorem ph_sel {xss pss : List (List Int)} {m k : Nat} (h : PitTo xss pss m) (hk : k < m) : phL pss k = sel (lessP (pss.getD k []) (befL pss k)) xss.length := less_sel _ (pit_ris h hk)
def phA (xss pss : List (List Int)) : List (List Int) := if pitsB xss pss = true then phsL pss pss.length else []

/-! ### the first place -/
/-- The first of the places below n at which p holds; n if there is none. -/
def fstN (p : Nat → Bool) : Nat → Nat
  | 0 => 0
  | n + 1 => if fstN p n < n then fstN p n else if p n then n else n + 1
theorem fst_le (p : Nat → Bool) : ∀ n, fstN p n ≤ n
  | 0 => Nat.le_refl _
  | n + 1 => by
    unfold fstN
    have := fst_le p n
    split
    · omega
    · split <;> omega
theorem fst_none {p : Nat → Bool} : ∀ {n : Nat}, (∀ q, q < n → p q = false) → fstN p n = n
  | 0, _ => rfl
  | n + 1, h => by
    unfold fstN
    rw [fst_none fun q hq => h q (by omega), if_neg (by omega), h n (by omega)]
    rfl
theorem fst_hit {p : Nat → Bool} {k : Nat} (h : ∀ q, q < k → p q = false) (hk : p k = true) : ∀ {n : Nat}, k < n → fstN p n = k
  | 0, hn => by omega
  | n + 1, hn => by
    unfold fstN
    by_cases e : k = n
    · subst e
      rw [fst_none h, if_neg (by omega), hk]
      rfl
    · rw [fst_hit h hk (n := n) (by omega), if_pos (by omega)]
def poP (pss : List (List Int)) (i : Int) (k : Nat) : Bool := inL (pss.getD k []) i
def poB (xss pss : List (List Int)) (i : Int) : Bool := pitsB xss pss && decide (fstN (poP pss i) pss.length < pss.length)
def poV (xss pss : List (List Int)) (i : Int) : Int := if poB xss pss i = true then (fstN (poP pss i) pss.length : Nat) else 0
/-- Before the first phase that has a block, no pit has it. -/
theorem po_before {pss : List (List Int)} {i : Int} {k : Nat} (h : ∀ q, q < k → inL (phL pss q) i = false) : ∀ q, q < k → poP pss i q = false := by
  intro q
  induction q with
  | zero =>
    intro hq
    have := h 0 hq
    unfold phL at this
    rw [show befL pss 0 = [] from rfl, less_nil] at this
    exact this
  | succ q ih =>
    intro hq
    have h1 := ih (by omega)
    have h2 := h (q + 1) hq
    rw [Bool.eq_false_iff] at h2 ⊢
    intro hc
    apply h2
    rw [inL_iff]
    unfold phL lessL
    rw [List.mem_filter]
    refine ⟨inL_iff.1 hc, ?_⟩
    have h1' : inL (befL pss (q + 1)) i = false := h1
    rw [h1']
    rfl
theorem po_at {pss : List (List Int)} {i : Int} {k : Nat} (h : inL (phL pss k) i = true) : poP pss i k = true := by
  rw [inL_iff] at h
  unfold phL lessL at h
  rw [List.mem_filter] at h
  exact inL_iff.2 h.1

/-! ### sums of phases -/
def suL (ts gs : List Int) (pss : List (List Int)) (k : Nat) : List (List Int) := (List.range k).map fun i => [sumT ts (phL pss i), sumM ts gs (phL pss i)]
theorem su_len (ts gs : List Int) (pss : List (List Int)) (k : Nat) : (suL ts gs pss k).length = k := by simp [suL]
theorem su_succ (ts gs : List Int) (pss : List (List Int)) (k : Nat) : suL ts gs pss (k + 1) = suL ts gs pss k ++ [[sumT ts (phL pss k), sumM ts gs (phL pss k)]] := by simp [suL, List.range_succ]

/-! ### joined phases -/
theorem sumN_add (f g : Nat → Int) : ∀ n, sumN (fun k => f k + g k) n = sumN f n + sumN g n
  | 0 => rfl
  | n + 1 => by rw [sumN_succ, sumN_succ, sumN_succ, sumN_add f g n]; omega
theorem sum_less {N : Nat} {ts a b : List Int} (ha : risB N a = true) (hb : risB N b = true) (h : b.all (inL a) = true) : sumT ts (lessL a b) = sumT ts a - sumT ts b := by
  have e1 : sumT ts a = sumN (fun k => if inL a k then ts.getD k 0 else 0) N := by rw [← sel_sum, sel_inL ha]
  have e2 : sumT ts b = sumN (fun k => if inL b k then ts.getD k 0 else 0) N := by rw [← sel_sum, sel_inL hb]
  have e3 : sumT ts (lessL a b) = sumN (fun k => if lessP a b k then ts.getD k 0 else 0) N := by rw [← sel_sum, less_sel b ha]
  have e4 : sumN (fun k => if inL a k then ts.getD k 0 else 0) N = sumN (fun k => (if lessP a b k then ts.getD k 0 else 0) + (if inL b k then ts.getD k 0 else 0)) N := sumN_congr fun k hk => by
    unfold lessP
    have hs : inL b (k : Int) = true → inL a (k : Int) = true := fun hx => by
      rw [List.all_eq_true] at h
      exact h _ (inL_iff.1 hx)
    cases h1 : inL a (k : Int) <;> cases h2 : inL b (k : Int) <;> simp_all
  rw [sumN_add] at e4
  omega
/-- The pits kept of the first k ones, and the last of them. -/
def joS (ts : List Int) (pss : List (List Int)) (least : Int) : Nat → List (List Int) × List Int
  | 0 => ([], [])
  | k + 1 => if k + 1 < pss.length ∧ sumT ts (lessL (pss.getD k []) (joS ts pss least k).2) < least then joS ts pss least k else ((joS ts pss least k).1 ++ [pss.getD k []], pss.getD k [])
theorem jo_bef {xss : List (List Int)} {ts : List Int} {pss : List (List Int)} {least : Int} {m : Nat} (h : PitTo xss pss m) : ∀ k, k ≤ m → (joS ts pss least k).2 = [] ∨ ∃ j, j < k ∧ (joS ts pss least k).2 = pss.getD j []
  | 0, _ => .inl rfl
  | k + 1, hk => by
    unfold joS
    split
    · rcases jo_bef h k (by omega) with e | ⟨j, hj, e⟩
      · exact .inl e
      · exact .inr ⟨j, by omega, e⟩
    · exact .inr ⟨k, by omega, rfl⟩
theorem jo_ris {xss : List (List Int)} {ts : List Int} {pss : List (List Int)} {least : Int} {m : Nat} (h : PitTo xss pss m) {k : Nat} (hk : k ≤ m) : risB xss.length (joS ts pss least k).2 = true := by
  rcases jo_bef (ts := ts) (least := least) h k hk with e | ⟨j, hj, e⟩
  · rw [e]; rfl
  · rw [e]; exact pit_ris h (by omega)
theorem jo_sum {xss : List (List Int)} {ts : List Int} {pss : List (List Int)} {least : Int} {m : Nat} (h : PitTo xss pss m) {k : Nat} (hk : k < m) : sumT ts (lessL (pss.getD k []) (joS ts pss least k).2) = sumT ts (pss.getD k []) - sumT ts (joS ts pss least k).2 := by
  refine sum_less (pit_ris h hk) (jo_ris h (by omega)) ?_
  rw [List.all_eq_true]
  intro x hx
  rcases jo_bef (ts := ts) (least := least) h k (by omega) with e | ⟨j, hj, e⟩
  · rw [e] at hx; cases hx
  · rw [e] at hx
    exact inL_iff.2 (pit_sub h (by omega) hk x hx)
theorem jo_skip {ts : List Int} {pss : List (List Int)} {least : Int} {k : Nat} (h1 : k + 1 < pss.length) (h2 : sumT ts (lessL (pss.getD k []) (joS ts pss least k).2) < least) : joS ts pss least (k + 1) = joS ts pss least k := by
  rw [joS, if_pos ⟨h1, h2⟩]
theorem jo_keep {ts : List Int} {pss : List (List Int)} {least : Int} {k : Nat} (h : ¬ (k + 1 < pss.length ∧ sumT ts (lessL (pss.getD k []) (joS ts pss least k).2) < least)) : joS ts pss least (k + 1) = ((joS ts pss least k).1 ++ [pss.getD k []], pss.getD k []) := by
  rw [joS, if_neg h]
theorem jo_len (ts : List Int) (pss : List (List Int)) (least : Int) : ∀ k, (joS ts pss least k).1.length ≤ k
  | 0 => Nat.le_refl _
  | k + 1 => by
    have := jo_len ts pss least k
    unfold joS
    split
    · omega
    · rw [List.length_append]; simp; omega

/-! ### filled pits -/
/-- The least closure of what is in now or in l. -/
def unC (xss : List (List Int)) (now l : List Int) : List Int := sel (dnS xss (addL l (inL now)) xss.length) xss.length
theorem un_eq {xss : List (List Int)} {now l : List Int} (hg : gB xss now = true) (hl : InX xss.length l) : sel (addL (clL xss l) (inL now)) xss.length = unC xss now l := by
  obtain ⟨⟨ha, hr⟩, hc⟩ := gB_iff.1 hg
  refine sel_congr fun k hk => ?_
  rw [Bool.eq_iff_iff, dn_iff ha]
  unfold addL
  rw [Bool.or_eq_true]
  constructor
  · rintro (h | h)
    · have h1 : (k : Int) ∈ clL xss l := by simpa using h
      refine (mem_clL ha hl).1 h1 (fun y => Rch xss (fun x => l.contains x || inL now x) y) (fun y hy => Rch.base ?_) fun c y hc hs hy => hs.step hc hy
      rw [Bool.or_eq_true]
      exact .inl hy
    · exact Rch.base (by rw [Bool.or_eq_true]; exact .inr h)
  · intro h
    refine h (fun y => (clL xss l).contains y = true ∨ inL now y = true) (fun y hy => ?_) fun c y hcl hs hy => ?_
    · rw [Bool.or_eq_true] at hy
      rcases hy with hy | hy
      · refine .inl ?_
        simp only [List.contains_eq_mem, decide_eq_true_eq]
        exact (mem_clL ha hl).2 (Rch.base hy)
      · exact .inr hy
    · rcases hs with hs | hs
      · refine .inl ?_
        simp only [List.contains_eq_mem, decide_eq_true_eq] at hs ⊢
        exact (mem_clL ha hl).2 (((mem_clL ha hl).1 hs).step hcl hy)
      · refine .inr ?_
        unfold closB at hc
        rw [List.all_eq_true] at hc
        have := hc _ (inL_iff.1 hs)
        rw [List.all_eq_true, Int.toNat_natCast] at this
        exact this y hy
theorem un_good {xss : List (List Int)} {now l : List Int} (ha : arcB xss = true) (hn : InX xss.length now) (hl : InX xss.length l) : gB xss (unC xss now l) = true := by
  refine gB_iff.2 ⟨⟨ha, sel_risB _ rfl⟩, ?_⟩
  unfold closB
  rw [List.all_eq_true]
  intro i hi
  unfold unC at hi
  rw [mem_sel] at hi
  unfold inr at hi
  rw [Bool.and_eq_true, decide_eq_true_eq] at hi
  obtain ⟨⟨i0, i1⟩, hd⟩ := hi
  obtain ⟨c, rfl⟩ := Int.eq_ofNat_of_zero_le i0
  rw [Int.toNat_natCast, List.all_eq_true]
  intro y hy
  have hy2 := arc_inX ha (i := c) (by omega) y hy
  rw [inL_iff]
  unfold unC
  rw [mem_sel]
  unfold inr
  rw [Bool.and_eq_true, decide_eq_true_eq]
  exact ⟨hy2, dn_closed ha (by omega) hd hy⟩
theorem un_cl {xss : List (List Int)} {now l m : List Int} (h : inL m = addL l (inL now)) : clL xss m = unC xss now l := by
  unfold clL unC
  rw [h]
/-- The pits filled by the first k lists, and the last of them. -/
def fiS (xss lss : List (List Int)) : Nat → List (List Int) × List Int
  | 0 => ([], [])
  | k + 1 => if (fiS xss lss k).2.length < (unC xss (fiS xss lss k).2 (lss.getD k [])).length then ((fiS xss lss k).1 ++ [unC xss (fiS xss lss k).2 (lss.getD k [])], unC xss (fiS xss lss k).2 (lss.getD k [])) else fiS xss lss k
theorem fi_take {xss lss : List (List Int)} {k : Nat} (h : (fiS xss lss k).2.length < (unC xss (fiS xss lss k).2 (lss.getD k [])).length) : fiS xss lss (k + 1) = ((fiS xss lss k).1 ++ [unC xss (fiS xss lss k).2 (lss.getD k [])], unC xss (fiS xss lss k).2 (lss.getD k [])) := by rw [fiS, if_pos h]
theorem fi_skip {xss lss : List (List Int)} {k : Nat} (h : ¬ (fiS xss lss k).2.length < (unC xss (fiS xss lss k).2 (lss.getD k [])).length) : fiS xss lss (k + 1) = fiS xss lss k := by rw [fiS, if_neg h]
theorem fi_len (xss lss : List (List Int)) : ∀ k, (fiS xss lss k).1.length ≤ k
  | 0 => Nat.le_refl _
  | k + 1 => by
    have := fi_len xss lss k
    unfold fiS
    split
    · rw [List.length_append]; simp; omega
    · omega
theorem clos_nil (xss : List (List Int)) (ha : arcB xss = true) : gB xss [] = true := gB_iff.2 ⟨⟨ha, rfl⟩, rfl⟩
theorem fi_good {xss lss : List (List Int)} (ha : arcB xss = true) : ∀ k, (∀ i, i < k → risB xss.length (lss.getD i []) = true) → gB xss (fiS xss lss k).2 = true
  | 0, _ => clos_nil xss ha
  | k + 1, h => by
    have ih := fi_good ha k fun i hi => h i (by omega)
    unfold fiS
    split
    · exact un_good ha (fun x hx => ris_mem (gB_iff.1 ih).1.2 hx) (fun x hx => ris_mem (h k (by omega)) hx)
    · exact ih
def fillB (xss lss : List (List Int)) : Bool := arcB xss && (decide (1 ≤ lss.length ∧ lss.length ≤ 8) && (List.range lss.length).all fun i => risB xss.length (lss.getD i []))
theorem fill_iff {xss lss : List (List Int)} : fillB xss lss = true ↔ arcB xss = true ∧ (1 ≤ lss.length ∧ lss.length ≤ 8) ∧ ∀ i, i < lss.length → risB xss.length (lss.getD i []) = true := by
  simp [fillB]
def fiA (xss lss : List (List Int)) : List (List Int) := if fillB xss lss = true then (fiS xss lss lss.length).1 else []
def fiB (xss lss : List (List Int)) : Bool := fillB xss lss && decide (0 < (fiS xss lss lss.length).1.length)
end Go.Proofs.Ytfpjodoimfbadaa
